import Derived.Test.YtmdhblhdfcocjaaGreatDoorP00Box
import Derived.Test.YtmdhblhdfcocjaaGreatDoorP24
namespace Go.Proofs.YtmdhblhdfcocjaaGreatDoor
set_option maxHeartbeats 4000000
set_option maxRecDepth 100000
open Go.ChangeShapes Go.WideShapes Go.ChangeAt Go.RowKit
set_option linter.unusedVariables false
theorem zK3 (us : List Value) (u : zAT) (w : World) (h : zAR.rd w us u) :
    Calls Tryz.prog 94 #[zBi us] w fun e w' => e = .returned (.bool (zB7 u)) ∧ Bl w w' := by
 obtain ⟨ad, a, rfl, i1, i2, b, c, k3⟩ := zAL h;rw [← zHB];exact zDO _ _ _ _ _ w (Nat.le_trans b c)
theorem zMe (us : List Value) (u : zAT) (w : World) (h : zAR.rd w us u) :
    Calls Tryz.prog 96 #[zBi us] w fun e w' => e = .returned (.bool (zBh isL u)) ∧ Bl w w' := by
 obtain ⟨ad, b, rfl, i1, i2, k1, k2, a⟩ := zAL h;exact zDw _ _ _ _ _ w a
theorem zK4 (us : List Value) (u : zAT) (w : World) (h : zAR.rd w us u) :
    Calls Tryz.prog 97 #[zBi us] w fun e w' => e = .returned (.bool (zEf u)) ∧ Bl w w' := by
 obtain ⟨f, a, rfl, i1, i2, j, k, q⟩ := zAL h;have l : u.2.2.length ≤ 9223372036854775807 := Nat.le_trans j k;clear h j k q;have X := zAx w (.cells #[nI u.1, nI u.2.1, sL f u.2.2.length a] 39);have B := zAf w (.cells #[nI u.1, nI u.2.1, sL f u.2.2.length a] 39);change Calls Tryz.prog 97 #[.agg #[nI u.1, nI u.2.1, sL f u.2.2.length a]] w _
 unfold zEf;generalize u.2.2.length = n at *;have HB : Hid (∀ b : Bool, b = zAP u.1 0 15 → zAP u.1 0 15 = b) := fun b e => e.symm;cases r : zAP u.1 0 15
 all_goals
  go_enter Tryz.func97, Tryz.ntmps97;go_wp2_with fail
  generalize w.alloc (.cells #[nI u.1, nI u.2.1, sL f n a] 39) = W0 at X B ⊢;refine (zBI _ _).mono ?_;rintro e p ⟨rfl, h⟩;rw [h, r];clear h p;obtain ⟨m, o, s⟩ := zAg X
 ·clear X m o s;go_wp2;go_ret
  exact ⟨rfl, B⟩
 ·by_cases c : u.2.1 = 0
  ·have g : (u.2.1 == 0) = true := by simp [c]
   by_cases d : n = 0
   ·have i : ((n : Int) == 0) = true := by simp [d]
    clear X;go_wp2;go_ret
    exact ⟨by simp [c, d], B⟩
   ·have i : ((n : Int) == 0) = false := by simp [d]
    clear X;go_wp2;go_ret
    exact ⟨by simp [c, d], B⟩
  ·have g : (u.2.1 == 0) = false := by simp [c]
   clear X;go_wp2;go_ret
   exact ⟨by simp [c], B⟩
def zJy (x : zAD) : Bool := zAP x.2.2.1 0 x.2.1.length && decide ((x.2.2.2.2.2.length : Int) = x.2.2.1)
noncomputable def zHJ (x : zAD) : Bool := if x.2.2.2.1 = 0 then zB7 x.2.2.2.2.1 else if x.2.2.2.1 = 1 then decide (atC x.1 x.2.2.2.2.1.1 = none) && (zBh isL x.2.2.2.2.1 || zEf x.2.2.2.2.1) else if x.2.2.2.1 = 2 then zB7 x.2.2.2.2.1 && decide (x.2.2.1 < (x.2.1.length : Int)) else false
theorem core_all (x : zAD) : zAY x = (okB isL zAJ x.1 && (zMd x.2.1 && (zJy x && zHJ x))) := by
 unfold zAY zMd zJy zHJ zJr;cases okB isL zAJ x.1
 ·rfl
 by_cases d : x.2.1.length ≤ 30
 ·simp only [d, decide_true, Bool.true_and];cases f : zAP x.2.2.1 0 x.2.1.length
  ·cases x.2.1.all zBN <;> rfl
  ·cases h3 : decide ((x.2.2.2.2.2.length : Int) = x.2.2.1)
   ·cases x.2.1.all zBN <;> rfl
   ·have g : x.2.2.1 ≤ (x.2.1.length : Int) := by simp [zAP] at f; omega
    simp only [Bool.true_and];by_cases b : x.2.2.2.1 = 0
    ·rw [if_pos b, if_neg (by omega)];simp [b, zAP]
    ·by_cases a : x.2.2.2.1 = 1
     ·rw [if_neg b, if_pos a, if_pos a];simp only [a, zAP];rw [Bool.or_comm, Bool.and_comm (decide (atC x.1 x.2.2.2.2.1.1 = none))];simp
     ·by_cases c : x.2.2.2.1 = 2
      ·rw [if_neg b, if_neg a, if_pos c, if_neg a];have e : decide (x.2.2.1 < (x.2.1.length : Int)) = !decide (x.2.2.1 = (x.2.1.length : Int)) := by
        by_cases e : x.2.2.1 = (x.2.1.length : Int)
        ·simp [e]
        ·simp [e]; omega
       rw [e];simp only [c, zAP];cases x.2.1.all zBN <;> cases zB7 x.2.2.2.2.1 <;> cases decide (x.2.2.1 = (x.2.1.length : Int)) <;> simp
      ·rw [if_neg b, if_neg a, if_neg c, if_neg a];have e : zAP x.2.2.2.1 0 2 = false := by simp [zAP]; omega
       rw [e];cases x.2.1.all zBN <;> rfl
 ·simp only [d, decide_false, Bool.false_and, Bool.and_false]
theorem zK5 (cs : List Value) (x : zAD) (w : World) (h : zAn.rd w cs x) :
    Calls Tryz.prog 98 #[zBi cs] w fun e w' => e = .returned (.bool (decide (x.2.2.1 < (x.2.1.length : Int)))) ∧ Bl w w' := by
 obtain ⟨g, a, v2, d, f, b, i, rfl, q, v, i2, i3, r, p⟩ := zCs h;obtain ⟨j, c, l, k, m, -⟩ := v;simp only [List.cons.injEq, and_true] at l;obtain rfl := l;have n : x.2.1.length ≤ 9223372036854775807 := Nat.le_trans k m;clear h q r p k m;change Calls Tryz.prog 98 #[.agg #[g, a, sL j x.2.1.length c, nI x.2.2.1, nI x.2.2.2.1, d, f, b, i]] w _
 have X := zAx w (.cells #[g, a, sL j x.2.1.length c, nI x.2.2.1, nI x.2.2.2.1, d, f, b, i] 41);have B := zAf w (.cells #[g, a, sL j x.2.1.length c, nI x.2.2.1, nI x.2.2.2.1, d, f, b, i] 41);have s : Hid _ := B;clear B;by_cases o : x.2.2.1 < (x.2.1.length : Int)
 all_goals
  go_enter Tryz.func98, Tryz.ntmps98;obtain ⟨y0, y1, y2, y3, y4, y5, y6, y7, y8⟩ := zAc X;clear X;go_wp2;go_ret
  exact ⟨by simp [o], s.out⟩
theorem zK6 (cs : List Value) (x : zAD) (w : World) (h : zAn.rd w cs x) :
    Calls Tryz.prog 66 #[zBi cs] w fun e w' => e = .returned (.bool (zJy x)) ∧ Bl w w' := by
 obtain ⟨k, b, v2, i, j, c, v8, rfl, C, G, i2, i3, F, A⟩ := zCs h;obtain ⟨m, f, v, p, y, -⟩ := G;simp only [List.cons.injEq, and_true] at v;obtain rfl := v;obtain ⟨n, g, r, o, s, -⟩ := A;simp only [List.cons.injEq, and_true] at r;obtain rfl := r;have z : x.2.1.length ≤ 9223372036854775807 := Nat.le_trans p y;have q : x.2.2.2.2.2.length ≤ 9223372036854775807 := Nat.le_trans o s;clear h C F p y o s;change Calls Tryz.prog 66 #[.agg #[k, b, sL m x.2.1.length f, nI x.2.2.1, nI x.2.2.2.1, i, j, c, sL n x.2.2.2.2.2.length g]] w _
 have X := zAx w (.cells #[k, b, sL m x.2.1.length f, nI x.2.2.1, nI x.2.2.2.1, i, j, c, sL n x.2.2.2.2.2.length g] 41);have B := zAf w (.cells #[k, b, sL m x.2.1.length f, nI x.2.2.1, nI x.2.2.2.1, i, j, c, sL n x.2.2.2.2.2.length g] 41);unfold zJy;have l : Hid _ := B;clear B;have hc : ((x.2.2.2.2.2.length : Int) == x.2.2.1) = decide ((x.2.2.2.2.2.length : Int) = x.2.2.1) := rfl;cases E : zAP x.2.2.1 0 x.2.1.length
 all_goals
  go_enter Tryz.func66, Tryz.ntmps66;obtain ⟨y0, y1, y2, y3, y4, y5, y6, y7, y8⟩ := zAc X;clear X;go_wp2_with fail
  refine (zBd _ _ _ _).mono ?_;rintro e D ⟨rfl, h⟩;rw [h, E];clear h D
 ·go_wp2;go_ret
  exact ⟨rfl, l.out⟩
 ·by_cases a : (x.2.2.2.2.2.length : Int) = x.2.2.1
  ·have d : ((x.2.2.2.2.2.length : Int) == x.2.2.1) = true := by simp [a]
   go_wp2;go_ret
   exact ⟨by simp [a], l.out⟩
  ·have d : ((x.2.2.2.2.2.length : Int) == x.2.2.1) = false := by simp [a]
   go_wp2;go_ret
   exact ⟨by simp [a], l.out⟩
theorem zMf {c : zAu} (h : OkC isL zAJ c) (k : Int) : (zCr c k).2.2 = !decide (atC c k = none) := by
 rw [zE8 h];cases a : zAP k 0 15
 ·rw [at_out h a]; rfl
 ·cases atC c k <;> rfl
theorem zK7 (cs : List Value) (x : zAD) (w : World) (hok : OkC isL zAJ x.1) (h : zAn.rd w cs x) :
    Calls Tryz.prog 67 #[zBi cs] w fun e w' => e = .returned (.bool (zHJ x)) ∧ Bl w w' := by
 have K : Hid _ := fun (W : World) (hb : Bl w W) => zK5 cs x W (zAM h hb);obtain ⟨y, q, C, s, v, r, F, rfl, O, r1, i2, i3, z, V⟩ := zCs h;have N : Hid (∀ W, Bl w W → Calls Tryz.prog 94 #[.agg #[s, v, r]] W fun e w' => e = .returned (.bool (zB7 x.2.2.2.2.1)) ∧ Bl W w') := fun W hb => zK3 [s, v, r] _ W (zAM z hb);have H : Hid (∀ W, Bl w W → Calls Tryz.prog 96 #[.agg #[s, v, r]] W fun e w' => e = .returned (.bool (zBh isL x.2.2.2.2.1)) ∧ Bl W w') := fun W hb => zMe [s, v, r] _ W (zAM z hb);have R : Hid (∀ W, Bl w W → Calls Tryz.prog 97 #[.agg #[s, v, r]] W fun e w' => e = .returned (.bool (zEf x.2.2.2.2.1)) ∧ Bl W w') := fun W hb => zK4 [s, v, r] _ W (zAM z hb);have G : Hid (∀ W, Bl w W → Calls Tryz.prog 95 #[.agg #[y, q], nI x.2.2.2.2.1.1] W fun e w' => e = .returned (.tuple #[.agg #[nI (zCr x.1 x.2.2.2.2.1.1).1, nI (zCr x.1 x.2.2.2.2.1.1).2.1], .bool (!decide (atC x.1 x.2.2.2.2.1.1 = none))]) ∧ Bl W w') := fun W hb => by
  have := zFI [y, q] x.1 x.2.2.2.2.1.1 W hok (zAM O hb);rw [zMf hok] at this;exact this
 obtain ⟨D, a, S, -, -, -, -, -⟩ := zAL z;simp only [List.cons.injEq, and_true] at S;obtain ⟨rfl, rfl, rfl⟩ := S;clear h O r1 z V hok;unfold zHJ;change Calls Tryz.prog 67 #[.agg #[y, q, C, nI x.2.2.1, nI x.2.2.2.1, nI x.2.2.2.2.1.1, nI x.2.2.2.2.1.2.1, sL D x.2.2.2.2.1.2.2.length a, F]] w _
 rw [aE] at K;generalize decide (x.2.2.1 < (x.2.1.length : Int)) = hp at K ⊢;generalize zB7 x.2.2.2.2.1 = cl at N ⊢;generalize zBh isL x.2.2.2.2.1 = fu at H ⊢;generalize zEf x.2.2.2.2.1 = go at R ⊢;generalize J : decide (atC x.1 x.2.2.2.2.1.1 = none) = an at G ⊢;clear J;generalize zCr x.1 x.2.2.2.2.1.1 = fp at G;have X := zAx w (.cells #[y, q, C, nI x.2.2.1, nI x.2.2.2.1, nI x.2.2.2.2.1.1, nI x.2.2.2.2.1.2.1, sL D x.2.2.2.2.1.2.2.length a, F] 41);have B := zAf w (.cells #[y, q, C, nI x.2.2.1, nI x.2.2.2.1, nI x.2.2.2.2.1.1, nI x.2.2.2.2.1.2.1, sL D x.2.2.2.2.1.2.2.length a, F] 41);generalize x.2.2.2.1 = ph at *;have Z : ∀ b c d : Bool, (if ph = 0 then b else if ph = 1 then c else if ph = 2 then d else false) = (if ph = 0 then b else if ph = 1 then c else if ph = 2 then d else false) := fun _ _ _ => rfl;clear Z;go_enter Tryz.func67, Tryz.ntmps67;obtain ⟨g, j, n, l, k, p, i, m, o⟩ := zAc X;by_cases M : ph = 0
 ·subst M;rw [if_pos rfl];go_wp2_with fail
  refine (N.out _ B).mono ?_;rintro e E ⟨rfl, f⟩;go_wp2;go_ret
  exact ⟨rfl, zAb B f⟩
 ·have cA : (ph == 0) = false := by simp [M]
  rw [if_neg M];by_cases L : ph = 1
  ·subst L;rw [if_pos rfl];go_wp2_with fail
   generalize w.alloc (.cells #[y, q, C, nI x.2.2.1, nI 1, nI x.2.2.2.2.1.1, nI x.2.2.2.2.1.2.1, sL D x.2.2.2.2.1.2.2.length a, F] 41) = W0 at X B ⊢;refine (G.out _ B).mono ?_;rintro e E ⟨rfl, f⟩;replace X := zAK (.cells #[nI fp.1, nI fp.2.1] 126) (zAa f X);replace B := zAb (zAb B f) (zAf E (.cells #[nI fp.1, nI fp.2.1] 126));clear f G g j n l k p i m o;obtain ⟨g, j, n, l, k, p, i, m, o⟩ := zAc X;cases an
   ·clear X;go_wp2;go_ret
    exact ⟨rfl, B⟩
   ·go_wp2_with fail
    generalize E.alloc (.cells #[nI fp.1, nI fp.2.1] 126) = W1 at X B ⊢;refine (H.out _ B).mono ?_;rintro e U ⟨rfl, A⟩;replace X := zAa A X;replace B := zAb B A;clear A H g j n l k p i m o;obtain ⟨g, j, n, l, k, p, i, m, o⟩ := zAc X;cases fu
    ·go_wp2_with fail
     refine (R.out _ B).mono ?_;rintro e w3 ⟨rfl, T⟩;replace B := zAb B T;clear X T g j n l k p i m o;go_wp2;go_ret
     exact ⟨rfl, B⟩
    ·clear X;go_wp2;go_ret
     exact ⟨rfl, B⟩
  ·have bA : (ph == 1) = false := by simp [L]
   rw [if_neg L];by_cases I : ph = 2
   ·subst I;rw [if_pos rfl];go_wp2_with fail
    refine (N.out _ B).mono ?_;rintro e E ⟨rfl, f⟩;replace X := zAa f X;replace B := zAb B f;clear f g j n l k p i m o;obtain ⟨g, j, n, l, k, p, i, m, o⟩ := zAc X;cases cl
    ·clear X;go_wp2;go_ret
     exact ⟨rfl, B⟩
    ·go_wp2_with fail
     refine (K.out _ B).mono ?_;rintro e U ⟨rfl, A⟩;clear X g j n l k p i m o;go_wp2;go_ret
     exact ⟨rfl, zAb B A⟩
   ·have Y : (ph == 2) = false := by simp [I]
    rw [if_neg I];clear X;go_wp2;go_ret
    exact ⟨rfl, B⟩
theorem zJz (cs : List Value) (x : zAD) (w : World) (h : zAn.rd w cs x) :
    Calls Tryz.prog 30 #[zBi cs] w fun e w' => e = .returned (.bool (zAY x)) ∧ Bl w w' := by
 rw [core_all];have r : Hid _ := fun (W : World) (hb : Bl w W) => zK6 cs x W (zAM h hb);have o : Hid (∀ W, okB isL zAJ x.1 = true → Bl w W → Calls Tryz.prog 67 #[zBi cs] W fun e w' => e = .returned (.bool (zHJ x)) ∧ Bl W w') := fun W hk hb => zK7 cs x W (zCK.1 hk) (zAM h hb);obtain ⟨n, m, p, z, A, s, C, rfl, D, F, i2, i3, J, G⟩ := zCs h;have y : Hid (∀ W, Bl w W → Calls Tryz.prog 64 #[.agg #[n, m]] W fun e w' => e = .returned (.bool (okB isL zAJ x.1)) ∧ Bl W w') := fun W hb => zIB [n, m] _ W (zAM D hb);have v : Hid (∀ W, Bl w W → Calls Tryz.prog 65 #[p] W fun e w' => e = .returned (.bool (zMd x.2.1)) ∧ Bl W w') := fun W hb => by
  obtain ⟨a1, c1, E, H, I, q⟩ := zAM F hb;simp only [List.cons.injEq, and_true] at E;obtain rfl := E;exact zID _ _ _ W q (Nat.le_trans H I)
 clear h D F J G;rw [aE] at r o ⊢;generalize zJy x = pl at r ⊢;generalize zHJ x = pb at o ⊢;generalize zMd x.2.1 = pr at v ⊢;generalize okB isL zAJ x.1 = ok at y o ⊢;have X := zAx w (.cells #[n, m, p, nI x.2.2.1, nI x.2.2.2.1, z, A, s, C] 41);have B := zAf w (.cells #[n, m, p, nI x.2.2.1, nI x.2.2.2.1, z, A, s, C] 41);go_enter Tryz.func30, Tryz.ntmps30;obtain ⟨b, c, i, f, d, k, l, g, j⟩ := zAc X;go_wp2_with fail
 generalize w.alloc (.cells #[n, m, p, nI x.2.2.1, nI x.2.2.2.1, z, A, s, C] 41) = W0 at X B ⊢;refine (y.out _ B).mono ?_;rintro e w1 ⟨rfl, a⟩;replace X := zAa a X;replace B := zAb B a;clear a y b c i f d k l g j;obtain ⟨b, c, i, f, d, k, l, g, j⟩ := zAc X;cases ok
 ·clear X;go_wp2;go_ret
  exact ⟨rfl, B⟩
 go_wp2_with fail
 refine (v.out _ B).mono ?_;rintro e w2 ⟨rfl, a⟩;replace X := zAa a X;replace B := zAb B a;clear a v b c i f d k l g j;obtain ⟨b, c, i, f, d, k, l, g, j⟩ := zAc X;cases pr
 ·clear X;go_wp2;go_ret
  exact ⟨rfl, B⟩
 go_wp2_with fail
 refine (r.out _ B).mono ?_;rintro e w3 ⟨rfl, a⟩;replace X := zAa a X;replace B := zAb B a;clear a r b c i f d k l g j;obtain ⟨b, c, i, f, d, k, l, g, j⟩ := zAc X;cases pl
 ·clear X;go_wp2;go_ret
  exact ⟨rfl, B⟩
 go_wp2_with fail
 refine (o.out _ (by first | rfl | trivial) B).mono ?_;rintro e w4 ⟨rfl, a⟩;replace B := zAb B a;clear a o X b c i f d k l g j;go_wp2;go_ret
 exact ⟨rfl, B⟩
theorem zJ0 {α : Type} {R : Rep α} {w : World} {ad : Addr} {xs : List α} (h : zBg R w (some ad) xs) : ∃ a, lrd R w a xs ∧ ∀ j u, a[j]? = some u → w.cell? (ad.add j) = some u := by
 rcases h with rfl | ⟨b, c, a, d, g, f⟩
 ·exact ⟨[], rfl, by simp⟩
 ·simp only [Option.some.injEq] at d;subst d;exact ⟨a, g, fun j u hj => by rw [show (⟨b, c, none⟩ : Addr).add j = ⟨b, c + j, none⟩ from by simp [Addr.add]]; exact f j u hj⟩
theorem Tryz.infoOps : (Tryz.prog.info? 85).map (fun i => (i.zero, i.size, i.bytes)) = some (some (.agg #[nI 0, nI 0, nI 0, nI 0]), 4, 32) := by kernel_rfl
theorem zGs {w w' : World} {S : zAW} : ∀ {rows : List Value} {xs : List OpD}, lrd opR w rows xs → zHi opR w' S rows xs ∧ (∀ u ∈ rows, u.oneCell' = true) ∧ rows.length = xs.length * 4
 | rows, [], h => by
  have : rows = [] := h;subst this;exact ⟨rfl, by simp, rfl⟩
 | rows, x :: r, h => by
  obtain ⟨c1, j, rfl, f, b⟩ := h;obtain ⟨c, g, i⟩ := zGs (w' := w') (S := S) b;obtain ⟨rfl, d⟩ := op_rd f;refine ⟨⟨_, j, fun _ => False, S, rfl, zHG d, c, fun _ h => h.elim, Sub.refl _, fun _ h _ => h⟩, ?_, ?_⟩
  ·intro u a;rcases List.mem_append.1 a with a | a
   ·simp only [List.mem_cons, List.not_mem_nil, or_false] at a;rcases a with rfl | rfl | rfl | rfl <;> rfl
   ·exact g u a
  ·rw [List.length_append, i];simp
   omega
theorem zLq {w w0 w1 : World} {v' : Value} {o : Obj} {rows : List Value} {xs : List OpD} (a : lrd opR w0 rows xs) (h : w1.ownsRow w.heap.size 85 4 v' xs.length rows)
    (hg : (w.alloc o).grownBy w1 (Value.slice (some ⟨w.heap.size, 0, none⟩) 0 0).ownBlock) (hv : v' ≠ sL none 0 0) : zAX zBX w w1 [v'] xs := by
 obtain ⟨c, q2, q3⟩ := zGs (w' := w1) (S := fun _ => False) a
 have b : Bl w w1 := ((Below.refl _ _).alloc (Nat.le_refl _) _).grown hg (by simp) (by
  intro r a;simp [Value.ownBlock] at a
  omega)
 refine ⟨⟨v', rows, fun _ => False, rfl, zDr h (fun _ _ => Nat.zero_le _), fun g hg' => ⟨?_, fun h => h⟩, fun _ h => h.elim, c⟩, b⟩;exact World.ownsRow.lt h g hg'
theorem zN6 (v : Value) (d : List OpD) (w : World) (h : zBX.rd w [v] d) (hm : d.length ≤ 1048576) :
    Calls Tryz.prog 70 #[v] w fun e w' => ∃ o, e = .returned o ∧ zAX zBX w w' [o] d := by
 obtain ⟨a, n, z, l1, l2, r⟩ := h;simp only [List.cons.injEq, and_true] at z;subst z;cases a with
 | some ad =>
  obtain ⟨c, s, C⟩ := zJ0 r;obtain ⟨J, E, G⟩ := zGs (w' := w) (S := fun _ => False) s;obtain ⟨D, M, y, q, p⟩ := info_parts Tryz.infoOps;have m : (w.alloc (.cells #[] 85)).ownsRow w.heap.size 85 4 (sL (some ⟨w.heap.size, 0, none⟩) 0 0) 0 [] := World.ownsRow_lit _ #[] 0 (Nat.le_refl _) (Nat.zero_le _) rfl;have H : Hid (lrd opR w c d) := s;have F := fun W => Go.Lib.run_eql_slice_nil (P := Tryz.prog) W 38 85 (some ad) d.length n 0 0 Tryz.underlying38;have N : Hid (∀ j u, c[j]? = some u → (w.alloc (.cells #[] 85)).cell? (ad.add j) = some u) := fun j u hj => by
   have A := C j u hj;exact (World.cell?_of_block (Below.heap_alloc w (.cells #[] 85) _ (World.block_lt_of_cell? w _ A))).trans A
  clear r s J C;go_enter Tryz.func70, Tryz.ntmps70;go_wp2_with (at_builtin; refine wpList_append_own _ rfl _ _ 38 rfl w.heap.size 85 D (.agg #[nI 0, nI 0, nI 0, nI 0]) 4 32 Tryz.underlying38 M y q p rfl (by decide) _ _ _ rfl m ad d.length n c rfl G N.out E ?c3 ?c4 ?c5 ?_)
  case c3 => unfold maxLen; omega
  case c4 => omega
  case c5 => simp
  ·intro o I i k l;have B : o ≠ sL none 0 0 := l;have f : I.ownsRow w.heap.size 85 4 o d.length c := by simpa using i
   have K : Hid _ := zLq (w := w) H.out f k B;clear i k l m f B;go_wp2;go_ret
   exact ⟨_, rfl, K.out⟩
 | none =>
  obtain rfl : d = [] := by
   rcases r with h | ⟨b, L, c, O, _⟩
   ·exact h
   ·cases O
  rw [show ([] : List OpD).length = 0 from rfl];have F := fun W => Go.Lib.run_eql_slice_nil (P := Tryz.prog) W 38 85 none 0 n 0 0 Tryz.underlying38;go_enter Tryz.func70, Tryz.ntmps70;go_wp2;go_ret
  exact ⟨_, rfl, ⟨_, [], fun _ => False, rfl, World.ownsRow_nil _ _ _ _, fun g hg => by simp [Value.ownBlock] at hg, fun _ h => h.elim, rfl⟩, Below.refl _ w⟩
theorem zMg {V : World} {ops : Array Oper} {rest : List Oper} {o : Oper} {a : Act} {Q : Exit → Act → World → Prop} (hgd : o.guard = none) (s x : Operand)
    (ho : o.op = .call { callee := .builtin .append, args := #[s, x], argTypes := #[38, 38] }) (v : Value) (d : List OpD) (hs : a.eval s = sL (some ⟨V.heap.size, 0, none⟩) 0 0) (hx : a.eval x = v) (h : zBX.rd V [v] d) (hm : d.length ≤ 1048576)
    (k : ∀ v' w', zAX zBX V w' [v'] d → wpList Tryz.prog ops Q rest (a.put o.dst v') w') : wpList Tryz.prog ops Q (o :: rest) a (V.alloc (.cells #[] 85)) := by
 obtain ⟨A, C, r, p, n⟩ := info_parts Tryz.infoOps;have c : (V.alloc (.cells #[] 85)).ownsRow V.heap.size 85 4 (sL (some ⟨V.heap.size, 0, none⟩) 0 0) 0 [] := World.ownsRow_lit _ #[] 0 (Nat.le_refl _) (Nat.zero_le _) rfl;obtain ⟨q, l, y, l1, l2, m⟩ := h;simp only [List.cons.injEq, and_true] at y;subst y;cases q with
 | none =>
  obtain rfl : d = [] := by
   rcases m with h | ⟨b, G, f, I, _⟩
   ·exact h
   ·cases I
  exact zCG hgd s x 38 ho V.heap.size 85 A 4 Tryz.underlying38 C l _ 0 [] hs c hx (k _ _ ⟨(show zBX.own (V.alloc (.cells #[] 85)) (rng V.heap.size (V.alloc (.cells #[] 85)).heap.size) [sL (some ⟨V.heap.size, 0, none⟩) 0 0] [] from ⟨_, [], fun _ => False, rfl, zDr c (fun _ _ => Nat.zero_le _), fun g hg => ⟨World.ownsRow.lt c g hg, fun h => h⟩, fun _ h => h.elim, rfl⟩), zAf V _⟩)
 | some q =>
  obtain ⟨f, B, H⟩ := zJ0 m;obtain ⟨q1, E, F⟩ := zGs (w' := V) (S := fun _ => False) B;refine wpList_append_own _ hgd s x 38 ho V.heap.size 85 A (.agg #[nI 0, nI 0, nI 0, nI 0]) 4 32 Tryz.underlying38 C r p n rfl (by decide) _ 0 [] hs c q d.length l f hx F (fun j u hj => ?_) E (by unfold maxLen; omega) (by omega) (by simp) (fun v' w1 hown' hgrow hnil => ?_)
  ·have z := H j u hj;exact (World.cell?_of_block (Below.heap_alloc V (.cells #[] 85) _ (World.block_lt_of_cell? V _ z))).trans z
  ·have D : v' ≠ sL none 0 0 := fun e => by have := (hnil.1 e).1; cases this
   have i : w1.ownsRow V.heap.size 85 4 v' d.length f := by simpa using hown'
   exact k v' w1 (zLq (w := V) B i hgrow D)
variable {α : Type}
def zAo (w : World) (g : Nat) : Nat → List Value → World
 | _, [] => w
 | o, v :: vs => zAo (w.setCell ⟨g, o, none⟩ v) g (o + 1) vs
def putA (cs : Array Value) : Nat → List Value → Array Value
 | _, [] => cs
 | o, v :: vs => putA (cs.setIfInBounds o v) (o + 1) vs
theorem zAA {g : Nat} {t : TypeId} : ∀ (vs : List Value) (o : Nat) {w : World} {cs : Array Value}, w.heap[g]? = some (.cells cs t (0, 0)) → (zAo w g o vs).heap[g]? = some (.cells (putA cs o vs) t (0, 0))
 | [], _, _, _, h => h
 | v :: vs, o, w, cs, h => zAA vs (o + 1) (heap_setCell_same w g o cs t v h)
theorem zBU {g : Nat} : ∀ (vs : List Value) (o : Nat) (w : World), Chg (fun k => k = g) w (zAo w g o vs)
 | [], _, w => Chg.refl _ w
 | v :: vs, o, w => (show Chg (fun k => k = g) w (w.setCell ⟨g, o, none⟩ v) from ⟨rfl, rfl, rfl, by simp, fun k hk hn => heap_setCell_other w ⟨g, o, none⟩ k v hn⟩).trans (zBU vs (o + 1) _)
theorem zAj {g : Nat} : ∀ (vs : List Value) (o : Nat) (w : World), (zAo w g o vs).heap.size = w.heap.size
 | [], _, _ => rfl
 | v :: vs, o, w => (zAj vs (o + 1) _).trans (by simp)
theorem zK8 {a w : World} {B g o : Nat} {vs : List Value} (h : Below B a w) (hB : B ≤ w.heap.size) (hg : B ≤ g) : Below B a (zAo w g o vs) :=
 (zBU vs o w).below h (fun k hk => by have : k = g := hk; omega) hB
theorem zAv {a w : World} {g o : Nat} {vs : List Value} (h : Bl a w) (hg : a.heap.size ≤ g) : Bl a (zAo w g o vs) := zK8 h h.size hg
theorem zAk {w : World} {k g o : Nat} {vs : List Value} {ob : Obj} (h : w.heap[k]? = some ob) (hn : k ≠ g) : (zAo w g o vs).heap[k]? = some ob :=
 ((zBU vs o w).block k (ltH h) hn).trans h
theorem zAs {R : Rep α} {w : World} {S : zAW} {cs : List Value} {x : α} {g o : Nat} {vs : List Value} (h : R.own w S cs x) (hg : ¬ S g) : R.own (zAo w g o vs) S cs x :=
 zAN h (zBU vs o w) fun k hk e => by have a : k = g := e; subst a; exact hg hk
theorem zAw {R : Rep α} {w : World} {lo hi : Nat} {cs : List Value} {x : α} {g o : Nat} {vs : List Value} (h : zCp R lo hi w cs x) (hg : g < lo ∨ hi ≤ g) : zCp R lo hi (zAo w g o vs) cs x :=
 ⟨zAs h.1 fun hk => by have := hk.1; have := hk.2; omega, by rw [zAj]; exact h.2⟩
theorem zFJ {e : TypeId} {R : Rep α} {w : World} {S : zAW} {cs : List Value} {x : α} (hs : 0 < R.size) (h : R.own w S cs x) (hS : ∀ k, S k → k < w.heap.size) : (slR e R).own (w.alloc (.cells cs.toArray e)) (fun k => S k ∨ k = w.heap.size) [sL (some ⟨w.heap.size, 0, none⟩) 1 1] [x] := by
 have a := R.rd_len (R.own_rd h);refine ⟨_, cs, S, rfl, World.ownsRow_lit w cs.toArray 1 (Nat.zero_le _) (by decide) (by simp [a]), fun g hg => ?_, fun k hk => .inl hk, ⟨cs, [], S, fun _ => False, by simp, zBQ _ h, rfl, Sub.refl _, fun _ h => h.elim, fun _ _ h => h⟩⟩;simp [Value.ownBlock] at hg
 subst hg;exact ⟨.inr rfl, fun hk => Nat.lt_irrefl _ (hS _ hk)⟩
theorem zC3 {e : TypeId} {R : Rep α} (w : World) : (slR e R).own (w.alloc (.cells #[] e)) (fun k => k = w.heap.size) [sL (some ⟨w.heap.size, 0, none⟩) 0 0] [] := by
 refine ⟨_, [], fun _ => False, rfl, World.ownsRow_lit w #[] 0 (Nat.zero_le _) (by decide) (by simp), fun g hg => ?_, fun _ h => h.elim, rfl⟩;simp [Value.ownBlock] at hg
 subst hg;exact ⟨rfl, fun h => h⟩
end Go.Proofs.YtmdhblhdfcocjaaGreatDoor
