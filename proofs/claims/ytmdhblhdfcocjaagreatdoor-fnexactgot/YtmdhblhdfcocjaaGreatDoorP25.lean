import Derived.Test.YtmdhblhdfcocjaaGreatDoorP00Box
import Derived.Test.YtmdhblhdfcocjaaGreatDoorP24
namespace Go.Proofs.YtmdhblhdfcocjaaGreatDoor
set_option maxHeartbeats 4000000
set_option maxRecDepth 100000
open Go.ChangeShapes Go.WideShapes Go.ChangeAt Go.RowKit
set_option linter.unusedVariables false
theorem zK3 (us : List Value) (u : zAT) (w : World) (h : zAR.rd w us u) :
    Calls Tryz.prog 94 #[zBh us] w fun e w' => e = .returned (.bool (zB7 u)) ∧ Bl w w' := by
 obtain ⟨ad, b, rfl, i1, i2, c, a, k3⟩ := zAL h;rw [← zHB];exact zDO _ _ _ _ _ w (Nat.le_trans c a)
theorem zMe (us : List Value) (u : zAT) (w : World) (h : zAR.rd w us u) :
    Calls Tryz.prog 96 #[zBh us] w fun e w' => e = .returned (.bool (zBi isL u)) ∧ Bl w w' := by
 obtain ⟨ad, a, rfl, i1, i2, k1, k2, b⟩ := zAL h;exact zDw _ _ _ _ _ w b
theorem zK4 (us : List Value) (u : zAT) (w : World) (h : zAR.rd w us u) :
    Calls Tryz.prog 97 #[zBh us] w fun e w' => e = .returned (.bool (zEf u)) ∧ Bl w w' := by
 obtain ⟨f, a, rfl, i1, i2, j, l, q⟩ := zAL h;have k : u.2.2.length ≤ 9223372036854775807 := Nat.le_trans j l;clear h j l q;have X := zAx w (.cells #[nI u.1, nI u.2.1, sL f u.2.2.length a] 39);have B := zAf w (.cells #[nI u.1, nI u.2.1, sL f u.2.2.length a] 39);change Calls Tryz.prog 97 #[.agg #[nI u.1, nI u.2.1, sL f u.2.2.length a]] w _
 unfold zEf;generalize u.2.2.length = n at *;have HB : Hid (∀ b : Bool, b = zAP u.1 0 15 → zAP u.1 0 15 = b) := fun b e => e.symm;cases r : zAP u.1 0 15
 all_goals
  go_enter Tryz.func97, Tryz.ntmps97;go_wp2_with fail
  generalize w.alloc (.cells #[nI u.1, nI u.2.1, sL f n a] 39) = W0 at X B ⊢;refine (zBI _ _).mono ?_;rintro e p ⟨rfl, h⟩;rw [h, r];clear h p;obtain ⟨m, s, o⟩ := zAg X
 ·clear X m s o;go_wp2;go_ret
  exact ⟨rfl, B⟩
 ·by_cases c : u.2.1 = 0
  ·have i : (u.2.1 == 0) = true := by simp [c]
   by_cases d : n = 0
   ·have g : ((n : Int) == 0) = true := by simp [d]
    clear X;go_wp2;go_ret
    exact ⟨by simp [c, d], B⟩
   ·have g : ((n : Int) == 0) = false := by simp [d]
    clear X;go_wp2;go_ret
    exact ⟨by simp [c, d], B⟩
  ·have i : (u.2.1 == 0) = false := by simp [c]
   clear X;go_wp2;go_ret
   exact ⟨by simp [c], B⟩
def zHJ (x : zAD) : Bool := zAP x.2.2.1 0 x.2.1.length && decide ((x.2.2.2.2.2.length : Int) = x.2.2.1)
noncomputable def zHK (x : zAD) : Bool := if x.2.2.2.1 = 0 then zB7 x.2.2.2.2.1 else if x.2.2.2.1 = 1 then decide (atC x.1 x.2.2.2.2.1.1 = none) && (zBi isL x.2.2.2.2.1 || zEf x.2.2.2.2.1) else if x.2.2.2.1 = 2 then zB7 x.2.2.2.2.1 && decide (x.2.2.1 < (x.2.1.length : Int)) else false
theorem core_all (x : zAD) : zAY x = (okB isL zAJ x.1 && (zMd x.2.1 && (zHJ x && zHK x))) := by
 unfold zAY zMd zHJ zHK zJs;cases okB isL zAJ x.1
 ·rfl
 by_cases d : x.2.1.length ≤ 30
 ·simp only [d, decide_true, Bool.true_and];cases g : zAP x.2.2.1 0 x.2.1.length
  ·cases x.2.1.all zBN <;> rfl
  ·cases h3 : decide ((x.2.2.2.2.2.length : Int) = x.2.2.1)
   ·cases x.2.1.all zBN <;> rfl
   ·have f : x.2.2.1 ≤ (x.2.1.length : Int) := by simp [zAP] at g; omega
    simp only [Bool.true_and];by_cases b : x.2.2.2.1 = 0
    ·rw [if_pos b, if_neg (by omega)];simp [b, zAP]
    ·by_cases a : x.2.2.2.1 = 1
     ·rw [if_neg b, if_pos a, if_pos a];simp only [a, zAP];rw [Bool.or_comm, Bool.and_comm (decide (atC x.1 x.2.2.2.2.1.1 = none))];simp
     ·by_cases c : x.2.2.2.1 = 2
      ·rw [if_neg b, if_neg a, if_pos c, if_neg a];have e : decide (x.2.2.1 < (x.2.1.length : Int)) = !decide (x.2.2.1 = (x.2.1.length : Int)) := by
        by_cases e : x.2.2.1 = (x.2.1.length : Int)
        ·simp [e]
        ·simp [e]; omega
       rw [e];simp only [c, zAP];cases x.2.1.all zBN <;> cases zB7 x.2.2.2.2.1 <;> cases decide (x.2.2.1 = (x.2.1.length : Int)) <;> simp
      ·rw [if_neg b, if_neg a, if_neg c, if_neg a];have e : zAP x.2.2.2.1 0 2 = false := by simp [zAP]; omega
       rw [e];cases x.2.1.all zBN <;> rfl
 ·simp only [d, decide_false, Bool.false_and, Bool.and_false]
theorem zK5 (cs : List Value) (x : zAD) (w : World) (h : zAn.rd w cs x) :
    Calls Tryz.prog 98 #[zBh cs] w fun e w' => e = .returned (.bool (decide (x.2.2.1 < (x.2.1.length : Int)))) ∧ Bl w w' := by
 obtain ⟨f, a, v2, j, i, d, b, rfl, r, o, i2, i3, q, v⟩ := zCs h;obtain ⟨g, c, n, k, m, -⟩ := o;simp only [List.cons.injEq, and_true] at n;obtain rfl := n;have l : x.2.1.length ≤ 9223372036854775807 := Nat.le_trans k m;clear h r q v k m;change Calls Tryz.prog 98 #[.agg #[f, a, sL g x.2.1.length c, nI x.2.2.1, nI x.2.2.2.1, j, i, d, b]] w _
 have X := zAx w (.cells #[f, a, sL g x.2.1.length c, nI x.2.2.1, nI x.2.2.2.1, j, i, d, b] 41);have B := zAf w (.cells #[f, a, sL g x.2.1.length c, nI x.2.2.1, nI x.2.2.2.1, j, i, d, b] 41);have p : Hid _ := B;clear B;by_cases s : x.2.2.1 < (x.2.1.length : Int)
 all_goals
  go_enter Tryz.func98, Tryz.ntmps98;obtain ⟨y0, y1, y2, y3, y4, y5, y6, y7, y8⟩ := zAc X;clear X;go_wp2;go_ret
  exact ⟨by simp [s], p.out⟩
theorem zK6 (cs : List Value) (x : zAD) (w : World) (h : zAn.rd w cs x) :
    Calls Tryz.prog 66 #[zBh cs] w fun e w' => e = .returned (.bool (zHJ x)) ∧ Bl w w' := by
 obtain ⟨f, b, v2, k, j, d, v8, rfl, F, C, i2, i3, E, G⟩ := zCs h;obtain ⟨i, c, z, r, y, -⟩ := C;simp only [List.cons.injEq, and_true] at z;obtain rfl := z;obtain ⟨n, g, q, p, o, -⟩ := G;simp only [List.cons.injEq, and_true] at q;obtain rfl := q;have v : x.2.1.length ≤ 9223372036854775807 := Nat.le_trans r y;have s : x.2.2.2.2.2.length ≤ 9223372036854775807 := Nat.le_trans p o;clear h F E r y p o;change Calls Tryz.prog 66 #[.agg #[f, b, sL i x.2.1.length c, nI x.2.2.1, nI x.2.2.2.1, k, j, d, sL n x.2.2.2.2.2.length g]] w _
 have X := zAx w (.cells #[f, b, sL i x.2.1.length c, nI x.2.2.1, nI x.2.2.2.1, k, j, d, sL n x.2.2.2.2.2.length g] 41);have B := zAf w (.cells #[f, b, sL i x.2.1.length c, nI x.2.2.1, nI x.2.2.2.1, k, j, d, sL n x.2.2.2.2.2.length g] 41);unfold zHJ;have l : Hid _ := B;clear B;have hc : ((x.2.2.2.2.2.length : Int) == x.2.2.1) = decide ((x.2.2.2.2.2.length : Int) = x.2.2.1) := rfl;cases D : zAP x.2.2.1 0 x.2.1.length
 all_goals
  go_enter Tryz.func66, Tryz.ntmps66;obtain ⟨y0, y1, y2, y3, y4, y5, y6, y7, y8⟩ := zAc X;clear X;go_wp2_with fail
  refine (zBd _ _ _ _).mono ?_;rintro e A ⟨rfl, h⟩;rw [h, D];clear h A
 ·go_wp2;go_ret
  exact ⟨rfl, l.out⟩
 ·by_cases a : (x.2.2.2.2.2.length : Int) = x.2.2.1
  ·have m : ((x.2.2.2.2.2.length : Int) == x.2.2.1) = true := by simp [a]
   go_wp2;go_ret
   exact ⟨by simp [a], l.out⟩
  ·have m : ((x.2.2.2.2.2.length : Int) == x.2.2.1) = false := by simp [a]
   go_wp2;go_ret
   exact ⟨by simp [a], l.out⟩
theorem zMf {c : zAu} (h : OkC isL zAJ c) (k : Int) : (zCr c k).2.2 = !decide (atC c k = none) := by
 rw [zE8 h];cases a : zAP k 0 15
 ·rw [at_out h a]; rfl
 ·cases atC c k <;> rfl
theorem zK7 (cs : List Value) (x : zAD) (w : World) (hok : OkC isL zAJ x.1) (h : zAn.rd w cs x) :
    Calls Tryz.prog 67 #[zBh cs] w fun e w' => e = .returned (.bool (zHK x)) ∧ Bl w w' := by
 have M : Hid (∀ W, Bl w W → Calls Tryz.prog 98 #[zBh cs] W fun e w' => e = .returned (.bool (decide (x.2.2.1 < (x.2.1.length : Int)))) ∧ Bl W w') := fun W hb => zK5 cs x W (zAM h hb);obtain ⟨s, q, F, y, v, r, C, rfl, S, Z, i2, i3, A, r5⟩ := zCs h;have K : Hid (∀ W, Bl w W → Calls Tryz.prog 94 #[.agg #[y, v, r]] W fun e w' => e = .returned (.bool (zB7 x.2.2.2.2.1)) ∧ Bl W w') := fun W hb => zK3 [y, v, r] _ W (zAM A hb);have L : Hid (∀ W, Bl w W → Calls Tryz.prog 96 #[.agg #[y, v, r]] W fun e w' => e = .returned (.bool (zBi isL x.2.2.2.2.1)) ∧ Bl W w') := fun W hb => zMe [y, v, r] _ W (zAM A hb);have T : Hid (∀ W, Bl w W → Calls Tryz.prog 97 #[.agg #[y, v, r]] W fun e w' => e = .returned (.bool (zEf x.2.2.2.2.1)) ∧ Bl W w') := fun W hb => zK4 [y, v, r] _ W (zAM A hb);have G : Hid (∀ W, Bl w W → Calls Tryz.prog 95 #[.agg #[s, q], nI x.2.2.2.2.1.1] W fun e w' => e = .returned (.tuple #[.agg #[nI (zCr x.1 x.2.2.2.2.1.1).1, nI (zCr x.1 x.2.2.2.2.1.1).2.1], .bool (!decide (atC x.1 x.2.2.2.2.1.1 = none))]) ∧ Bl W w') := fun W hb => by
  have := zFI [s, q] x.1 x.2.2.2.2.1.1 W hok (zAM S hb);rw [zMf hok] at this;exact this
 obtain ⟨D, f, O, -, -, -, -, -⟩ := zAL A;simp only [List.cons.injEq, and_true] at O;obtain ⟨rfl, rfl, rfl⟩ := O;clear h S Z A r5 hok;unfold zHK;change Calls Tryz.prog 67 #[.agg #[s, q, F, nI x.2.2.1, nI x.2.2.2.1, nI x.2.2.2.2.1.1, nI x.2.2.2.2.1.2.1, sL D x.2.2.2.2.1.2.2.length f, C]] w _
 rw [aE] at M;generalize decide (x.2.2.1 < (x.2.1.length : Int)) = hp at M ⊢;generalize zB7 x.2.2.2.2.1 = cl at K ⊢;generalize zBi isL x.2.2.2.2.1 = fu at L ⊢;generalize zEf x.2.2.2.2.1 = go at T ⊢;generalize I : decide (atC x.1 x.2.2.2.2.1.1 = none) = an at G ⊢;clear I;generalize zCr x.1 x.2.2.2.2.1.1 = fp at G;have X := zAx w (.cells #[s, q, F, nI x.2.2.1, nI x.2.2.2.1, nI x.2.2.2.2.1.1, nI x.2.2.2.2.1.2.1, sL D x.2.2.2.2.1.2.2.length f, C] 41);have B := zAf w (.cells #[s, q, F, nI x.2.2.1, nI x.2.2.2.1, nI x.2.2.2.2.1.1, nI x.2.2.2.2.1.2.1, sL D x.2.2.2.2.1.2.2.length f, C] 41);generalize x.2.2.2.1 = ph at *;have HI : ∀ b c d : Bool, (if ph = 0 then b else if ph = 1 then c else if ph = 2 then d else false) = (if ph = 0 then b else if ph = 1 then c else if ph = 2 then d else false) := fun _ _ _ => rfl;clear HI;go_enter Tryz.func67, Tryz.ntmps67;obtain ⟨g, o, j, l, k, i, p, m, n⟩ := zAc X;by_cases J : ph = 0
 ·subst J;rw [if_pos rfl];go_wp2_with fail
  refine (K.out _ B).mono ?_;rintro e E ⟨rfl, a⟩;go_wp2;go_ret
  exact ⟨rfl, zAb B a⟩
 ·have aA : (ph == 0) = false := by simp [J]
  rw [if_neg J];by_cases N : ph = 1
  ·subst N;rw [if_pos rfl];go_wp2_with fail
   generalize w.alloc (.cells #[s, q, F, nI x.2.2.1, nI 1, nI x.2.2.2.2.1.1, nI x.2.2.2.2.1.2.1, sL D x.2.2.2.2.1.2.2.length f, C] 41) = W0 at X B ⊢;refine (G.out _ B).mono ?_;rintro e E ⟨rfl, a⟩;replace X := zAK (.cells #[nI fp.1, nI fp.2.1] 126) (zAa a X);replace B := zAb (zAb B a) (zAf E (.cells #[nI fp.1, nI fp.2.1] 126));clear a G g o j l k i p m n;obtain ⟨g, o, j, l, k, i, p, m, n⟩ := zAc X;cases an
   ·clear X;go_wp2;go_ret
    exact ⟨rfl, B⟩
   ·go_wp2_with fail
    generalize E.alloc (.cells #[nI fp.1, nI fp.2.1] 126) = W1 at X B ⊢;refine (L.out _ B).mono ?_;rintro e Y ⟨rfl, z⟩;replace X := zAa z X;replace B := zAb B z;clear z L g o j l k i p m n;obtain ⟨g, o, j, l, k, i, p, m, n⟩ := zAc X;cases fu
    ·go_wp2_with fail
     refine (T.out _ B).mono ?_;rintro e w3 ⟨rfl, R⟩;replace B := zAb B R;clear X R g o j l k i p m n;go_wp2;go_ret
     exact ⟨rfl, B⟩
    ·clear X;go_wp2;go_ret
     exact ⟨rfl, B⟩
  ·have V : (ph == 1) = false := by simp [N]
   rw [if_neg N];by_cases H : ph = 2
   ·subst H;rw [if_pos rfl];go_wp2_with fail
    refine (K.out _ B).mono ?_;rintro e E ⟨rfl, a⟩;replace X := zAa a X;replace B := zAb B a;clear a g o j l k i p m n;obtain ⟨g, o, j, l, k, i, p, m, n⟩ := zAc X;cases cl
    ·clear X;go_wp2;go_ret
     exact ⟨rfl, B⟩
    ·go_wp2_with fail
     refine (M.out _ B).mono ?_;rintro e Y ⟨rfl, z⟩;clear X g o j l k i p m n;go_wp2;go_ret
     exact ⟨rfl, zAb B z⟩
   ·have U : (ph == 2) = false := by simp [H]
    rw [if_neg H];clear X;go_wp2;go_ret
    exact ⟨rfl, B⟩
theorem zJz (cs : List Value) (x : zAD) (w : World) (h : zAn.rd w cs x) :
    Calls Tryz.prog 30 #[zBh cs] w fun e w' => e = .returned (.bool (zAY x)) ∧ Bl w w' := by
 rw [core_all];have p : Hid (∀ W, Bl w W → Calls Tryz.prog 66 #[zBh cs] W fun e w' => e = .returned (.bool (zHJ x)) ∧ Bl W w') := fun W hb => zK6 cs x W (zAM h hb);have n : Hid (∀ W, okB isL zAJ x.1 = true → Bl w W → Calls Tryz.prog 67 #[zBh cs] W fun e w' => e = .returned (.bool (zHK x)) ∧ Bl W w') := fun W hk hb => zK7 cs x W (zCK.1 hk) (zAM h hb);obtain ⟨o, m, r, A, z, y, v, rfl, E, D, i2, i3, I, J⟩ := zCs h;have s : Hid (∀ W, Bl w W → Calls Tryz.prog 64 #[.agg #[o, m]] W fun e w' => e = .returned (.bool (okB isL zAJ x.1)) ∧ Bl W w') := fun W hb => zIC [o, m] _ W (zAM E hb);have C : Hid (∀ W, Bl w W → Calls Tryz.prog 65 #[r] W fun e w' => e = .returned (.bool (zMd x.2.1)) ∧ Bl W w') := fun W hb => by
  obtain ⟨a1, c1, F, G, H, q⟩ := zAM D hb;simp only [List.cons.injEq, and_true] at F;obtain rfl := F;exact zIE _ _ _ W q (Nat.le_trans G H)
 clear h E D I J;rw [aE] at p n ⊢;generalize zHJ x = pl at p ⊢;generalize zHK x = pb at n ⊢;generalize zMd x.2.1 = pr at C ⊢;generalize okB isL zAJ x.1 = ok at s n ⊢;have X := zAx w (.cells #[o, m, r, nI x.2.2.1, nI x.2.2.2.1, A, z, y, v] 41);have B := zAf w (.cells #[o, m, r, nI x.2.2.1, nI x.2.2.2.1, A, z, y, v] 41);go_enter Tryz.func30, Tryz.ntmps30;obtain ⟨b, k, d, g, f, c, l, i, j⟩ := zAc X;go_wp2_with fail
 generalize w.alloc (.cells #[o, m, r, nI x.2.2.1, nI x.2.2.2.1, A, z, y, v] 41) = W0 at X B ⊢;refine (s.out _ B).mono ?_;rintro e w1 ⟨rfl, a⟩;replace X := zAa a X;replace B := zAb B a;clear a s b k d g f c l i j;obtain ⟨b, k, d, g, f, c, l, i, j⟩ := zAc X;cases ok
 ·clear X;go_wp2;go_ret
  exact ⟨rfl, B⟩
 go_wp2_with fail
 refine (C.out _ B).mono ?_;rintro e w2 ⟨rfl, a⟩;replace X := zAa a X;replace B := zAb B a;clear a C b k d g f c l i j;obtain ⟨b, k, d, g, f, c, l, i, j⟩ := zAc X;cases pr
 ·clear X;go_wp2;go_ret
  exact ⟨rfl, B⟩
 go_wp2_with fail
 refine (p.out _ B).mono ?_;rintro e w3 ⟨rfl, a⟩;replace X := zAa a X;replace B := zAb B a;clear a p b k d g f c l i j;obtain ⟨b, k, d, g, f, c, l, i, j⟩ := zAc X;cases pl
 ·clear X;go_wp2;go_ret
  exact ⟨rfl, B⟩
 go_wp2_with fail
 refine (n.out _ (by first | rfl | trivial) B).mono ?_;rintro e w4 ⟨rfl, a⟩;replace B := zAb B a;clear a n X b k d g f c l i j;go_wp2;go_ret
 exact ⟨rfl, B⟩
theorem zJ0 {α : Type} {R : Rep α} {w : World} {ad : Addr} {xs : List α} (h : zBg R w (some ad) xs) : ∃ a, lrd R w a xs ∧ ∀ j u, a[j]? = some u → w.cell? (ad.add j) = some u := by
 rcases h with rfl | ⟨b, c, a, d, f, g⟩
 ·exact ⟨[], rfl, by simp⟩
 ·simp only [Option.some.injEq] at d;subst d;exact ⟨a, f, fun j u hj => by rw [show (⟨b, c, none⟩ : Addr).add j = ⟨b, c + j, none⟩ from by simp [Addr.add]]; exact g j u hj⟩
theorem Tryz.infoOps : (Tryz.prog.info? 85).map (fun i => (i.zero, i.size, i.bytes)) = some (some (.agg #[nI 0, nI 0, nI 0, nI 0]), 4, 32) := by kernel_rfl
theorem zGs {w w' : World} {S : zAW} : ∀ {rows : List Value} {xs : List OpD}, lrd opR w rows xs → zHi opR w' S rows xs ∧ (∀ u ∈ rows, u.oneCell' = true) ∧ rows.length = xs.length * 4
 | rows, [], h => by
  have : rows = [] := h;subst this;exact ⟨rfl, by simp, rfl⟩
 | rows, x :: r, h => by
  obtain ⟨c1, g, rfl, i, j⟩ := h;obtain ⟨c, f, b⟩ := zGs (w' := w') (S := S) j;obtain ⟨rfl, d⟩ := op_rd i;refine ⟨⟨_, g, fun _ => False, S, rfl, zHG d, c, fun _ h => h.elim, Sub.refl _, fun _ h _ => h⟩, ?_, ?_⟩
  ·intro u a;rcases List.mem_append.1 a with a | a
   ·simp only [List.mem_cons, List.not_mem_nil, or_false] at a;rcases a with rfl | rfl | rfl | rfl <;> rfl
   ·exact f u a
  ·rw [List.length_append, b];simp
   omega
theorem zLq {w w0 w1 : World} {v' : Value} {o : Obj} {rows : List Value} {xs : List OpD} (a : lrd opR w0 rows xs) (h : w1.ownsRow w.heap.size 85 4 v' xs.length rows)
    (hg : (w.alloc o).grownBy w1 (Value.slice (some ⟨w.heap.size, 0, none⟩) 0 0).ownBlock) (hv : v' ≠ sL none 0 0) : zAX zBX w w1 [v'] xs := by
 obtain ⟨b, q2, q3⟩ := zGs (w' := w1) (S := fun _ => False) a
 have c : Bl w w1 := ((Below.refl _ _).alloc (Nat.le_refl _) _).grown hg (by simp) (by
  intro r a;simp [Value.ownBlock] at a
  omega)
 refine ⟨⟨v', rows, fun _ => False, rfl, zDr h (fun _ _ => Nat.zero_le _), fun g hg' => ⟨?_, fun h => h⟩, fun _ h => h.elim, b⟩, c⟩;exact World.ownsRow.lt h g hg'
theorem zN6 (v : Value) (d : List OpD) (w : World) (h : zBX.rd w [v] d) (hm : d.length ≤ 1048576) :
    Calls Tryz.prog 70 #[v] w fun e w' => ∃ o, e = .returned o ∧ zAX zBX w w' [o] d := by
 obtain ⟨a, n, z, l1, l2, q⟩ := h;simp only [List.cons.injEq, and_true] at z;subst z;cases a with
 | some ad =>
  obtain ⟨c, r, C⟩ := zJ0 q;obtain ⟨M, G, L⟩ := zGs (w' := w) (S := fun _ => False) r;obtain ⟨E, N, p, y, s⟩ := info_parts Tryz.infoOps;have l : (w.alloc (.cells #[] 85)).ownsRow w.heap.size 85 4 (sL (some ⟨w.heap.size, 0, none⟩) 0 0) 0 [] := World.ownsRow_lit _ #[] 0 (Nat.le_refl _) (Nat.zero_le _) rfl;have H : Hid (lrd opR w c d) := r;have I := fun W => Go.Lib.run_eql_slice_nil (P := Tryz.prog) W 38 85 (some ad) d.length n 0 0 Tryz.underlying38;have O : Hid (∀ j u, c[j]? = some u → (w.alloc (.cells #[] 85)).cell? (ad.add j) = some u) := fun j u hj => by
   have A := C j u hj;exact (World.cell?_of_block (Below.heap_alloc w (.cells #[] 85) _ (World.block_lt_of_cell? w _ A))).trans A
  clear q r M C;go_enter Tryz.func70, Tryz.ntmps70;go_wp2_with (at_builtin; refine wpList_append_own _ rfl _ _ 38 rfl w.heap.size 85 E (.agg #[nI 0, nI 0, nI 0, nI 0]) 4 32 Tryz.underlying38 N p y s rfl (by decide) _ _ _ rfl l ad d.length n c rfl L O.out G ?c3 ?c4 ?c5 ?_)
  case c3 => unfold maxLen; omega
  case c4 => omega
  case c5 => simp
  ·intro o F i k m;have B : o ≠ sL none 0 0 := m;have f : F.ownsRow w.heap.size 85 4 o d.length c := by simpa using i
   have D : Hid _ := zLq (w := w) H.out f k B;clear i k m l f B;go_wp2;go_ret
   exact ⟨_, rfl, D.out⟩
 | none =>
  obtain rfl : d = [] := by
   rcases q with h | ⟨b, J, c, K, _⟩
   ·exact h
   ·cases K
  rw [show ([] : List OpD).length = 0 from rfl];have I := fun W => Go.Lib.run_eql_slice_nil (P := Tryz.prog) W 38 85 none 0 n 0 0 Tryz.underlying38;go_enter Tryz.func70, Tryz.ntmps70;go_wp2;go_ret
  exact ⟨_, rfl, ⟨_, [], fun _ => False, rfl, World.ownsRow_nil _ _ _ _, fun g hg => by simp [Value.ownBlock] at hg, fun _ h => h.elim, rfl⟩, Below.refl _ w⟩
theorem zMg {V : World} {ops : Array Oper} {rest : List Oper} {o : Oper} {a : Act} {Q : Exit → Act → World → Prop} (hgd : o.guard = none) (s x : Operand)
    (ho : o.op = .call { callee := .builtin .append, args := #[s, x], argTypes := #[38, 38] }) (v : Value) (d : List OpD) (hs : a.eval s = sL (some ⟨V.heap.size, 0, none⟩) 0 0) (hx : a.eval x = v) (h : zBX.rd V [v] d) (hm : d.length ≤ 1048576)
    (k : ∀ v' w', zAX zBX V w' [v'] d → wpList Tryz.prog ops Q rest (a.put o.dst v') w') : wpList Tryz.prog ops Q (o :: rest) a (V.alloc (.cells #[] 85)) := by
 obtain ⟨y, C, p, r, q⟩ := info_parts Tryz.infoOps;have c : (V.alloc (.cells #[] 85)).ownsRow V.heap.size 85 4 (sL (some ⟨V.heap.size, 0, none⟩) 0 0) 0 [] := World.ownsRow_lit _ #[] 0 (Nat.le_refl _) (Nat.zero_le _) rfl;obtain ⟨n, m, z, l1, l2, l⟩ := h;simp only [List.cons.injEq, and_true] at z;subst z;cases n with
 | none =>
  obtain rfl : d = [] := by
   rcases l with h | ⟨b, F, f, G, _⟩
   ·exact h
   ·cases G
  exact zCG hgd s x 38 ho V.heap.size 85 y 4 Tryz.underlying38 C m _ 0 [] hs c hx (k _ _ ⟨(show zBX.own (V.alloc (.cells #[] 85)) (rng V.heap.size (V.alloc (.cells #[] 85)).heap.size) [sL (some ⟨V.heap.size, 0, none⟩) 0 0] [] from ⟨_, [], fun _ => False, rfl, zDr c (fun _ _ => Nat.zero_le _), fun g hg => ⟨World.ownsRow.lt c g hg, fun h => h⟩, fun _ h => h.elim, rfl⟩), zAf V _⟩)
 | some n =>
  obtain ⟨f, B, I⟩ := zJ0 l;obtain ⟨q1, D, H⟩ := zGs (w' := V) (S := fun _ => False) B;refine wpList_append_own _ hgd s x 38 ho V.heap.size 85 y (.agg #[nI 0, nI 0, nI 0, nI 0]) 4 32 Tryz.underlying38 C p r q rfl (by decide) _ 0 [] hs c n d.length m f hx H (fun j u hj => ?_) D (by unfold maxLen; omega) (by omega) (by simp) (fun v' w1 hown' hgrow hnil => ?_)
  ·have A := I j u hj;exact (World.cell?_of_block (Below.heap_alloc V (.cells #[] 85) _ (World.block_lt_of_cell? V _ A))).trans A
  ·have E : v' ≠ sL none 0 0 := fun e => by have := (hnil.1 e).1; cases this
   have i : w1.ownsRow V.heap.size 85 4 v' d.length f := by simpa using hown'
   exact k v' w1 (zLq (w := V) B i hgrow E)
variable {α : Type}
def zAo (w : World) (g : Nat) : Nat → List Value → World
 | _, [] => w
 | o, v :: vs => zAo (w.setCell ⟨g, o, none⟩ v) g (o + 1) vs
def putA (cs : Array Value) : Nat → List Value → Array Value
 | _, [] => cs
 | o, v :: vs => putA (cs.setIfInBounds o v) (o + 1) vs
theorem zAB {g : Nat} {t : TypeId} : ∀ (vs : List Value) (o : Nat) {w : World} {cs : Array Value}, w.heap[g]? = some (.cells cs t (0, 0)) → (zAo w g o vs).heap[g]? = some (.cells (putA cs o vs) t (0, 0))
 | [], _, _, _, h => h
 | v :: vs, o, w, cs, h => zAB vs (o + 1) (heap_setCell_same w g o cs t v h)
theorem zBU {g : Nat} : ∀ (vs : List Value) (o : Nat) (w : World), Chg (fun k => k = g) w (zAo w g o vs)
 | [], _, w => Chg.refl _ w
 | v :: vs, o, w => (show Chg (fun k => k = g) w (w.setCell ⟨g, o, none⟩ v) from ⟨rfl, rfl, rfl, by simp, fun k hk hn => heap_setCell_other w ⟨g, o, none⟩ k v hn⟩).trans (zBU vs (o + 1) _)
theorem zAj {g : Nat} : ∀ (vs : List Value) (o : Nat) (w : World), (zAo w g o vs).heap.size = w.heap.size
 | [], _, _ => rfl
 | v :: vs, o, w => (zAj vs (o + 1) _).trans (by simp)
theorem zK8 {a w : World} {B g o : Nat} {vs : List Value} (h : Below B a w) (hB : B ≤ w.heap.size) (hg : B ≤ g) : Below B a (zAo w g o vs) :=
 (zBU vs o w).below h (fun k hk => by have : k = g := hk; omega) hB
theorem zAv {a w : World} {g o : Nat} {vs : List Value} (h : Bl a w) (hg : a.heap.size ≤ g) : Bl a (zAo w g o vs) := zK8 h h.size hg
theorem zAk {w : World} {k g o : Nat} {vs : List Value} {ob : Obj} (h : w.heap[k]? = some ob) (hn : k ≠ g) : (zAo w g o vs).heap[k]? = some ob :=
 ((zBU vs o w).block k (ltH h) hn).trans h
theorem zAs {R : Rep α} {w : World} {S : zAW} {cs : List Value} {x : α} {g o : Nat} {vs : List Value} (h : R.own w S cs x) (hg : ¬ S g) : R.own (zAo w g o vs) S cs x :=
 zAN h (zBU vs o w) fun k hk e => by have a : k = g := e; subst a; exact hg hk
theorem zAw {R : Rep α} {w : World} {lo hi : Nat} {cs : List Value} {x : α} {g o : Nat} {vs : List Value} (h : zCp R lo hi w cs x) (hg : g < lo ∨ hi ≤ g) : zCp R lo hi (zAo w g o vs) cs x :=
 ⟨zAs h.1 fun hk => by have := hk.1; have := hk.2; omega, by rw [zAj]; exact h.2⟩
theorem zFJ {e : TypeId} {R : Rep α} {w : World} {S : zAW} {cs : List Value} {x : α} (hs : 0 < R.size) (h : R.own w S cs x) (hS : ∀ k, S k → k < w.heap.size) : (slR e R).own (w.alloc (.cells cs.toArray e)) (fun k => S k ∨ k = w.heap.size) [sL (some ⟨w.heap.size, 0, none⟩) 1 1] [x] := by
 have a := R.rd_len (R.own_rd h);refine ⟨_, cs, S, rfl, World.ownsRow_lit w cs.toArray 1 (Nat.zero_le _) (by decide) (by simp [a]), fun g hg => ?_, fun k hk => .inl hk, ⟨cs, [], S, fun _ => False, by simp, zBQ _ h, rfl, Sub.refl _, fun _ h => h.elim, fun _ _ h => h⟩⟩;simp [Value.ownBlock] at hg
 subst hg;exact ⟨.inr rfl, fun hk => Nat.lt_irrefl _ (hS _ hk)⟩
theorem zC3 {e : TypeId} {R : Rep α} (w : World) : (slR e R).own (w.alloc (.cells #[] e)) (fun k => k = w.heap.size) [sL (some ⟨w.heap.size, 0, none⟩) 0 0] [] := by
 refine ⟨_, [], fun _ => False, rfl, World.ownsRow_lit w #[] 0 (Nat.zero_le _) (by decide) (by simp), fun g hg => ?_, fun _ h => h.elim, rfl⟩;simp [Value.ownBlock] at hg
 subst hg;exact ⟨rfl, fun h => h⟩
end Go.Proofs.YtmdhblhdfcocjaaGreatDoor
