import Derived.Test.YtcocbafhcpdheaaGreatDoorT00Box
import Derived.Test.YtcocbafhcpdheaaGreatDoorT27
namespace Go.Proofs.YtcocbafhcpdheaaGreatDoor
set_option maxHeartbeats 8000000
set_option maxRecDepth 20000
open Go.ChangeShapes Go.WideShapes Go.ChangeAt Go.RowKit
set_option linter.unusedVariables false
def zEx (u : zC3) : Bool := zA8 u.1 0 15 && (decide (u.2.1 = 0) && decide (u.2.2.length = 0))
noncomputable def zGI (x : zBi) : Bool := if x.2.2.2.1 = 1 then (zEx x.2.2.2.2.1 || zCC isL x.2.2.2.2.1) && decide (atC x.1 x.2.2.2.2.1.1 = none) else zB3 x.2.2.2.2.1
noncomputable def zCd (x : zBi) : Bool := okB isL zAH x.1 && (decide (x.2.1.length ≤ 30) && (zA8 x.2.2.1 0 x.2.1.length && (decide ((x.2.2.2.2.2.length : Int) = x.2.2.1) && (zA8 x.2.2.2.1 0 2 && (!(decide (x.2.2.2.1 = 2) && decide (x.2.2.1 = (x.2.1.length : Int))) && (x.2.1.all zB2 && zGI x))))))
theorem zIn (o : Option Nat) : decide (zM6 o < 0) = decide (o = none) := by
 cases o with
 | none => rfl
 | some i => exact (decide_eq_false (show ¬ ((i : Int) < 0) by omega)).trans (decide_eq_false (by simp)).symm
theorem zIo {w : World} {a : Option Addr} {xs : List (List zC3)} (h : zA4 zBh w a xs) : ∀ c ∈ xs, c.length ≤ maxLen := by
 intro c i;obtain ⟨j, l⟩ := List.getElem?_of_mem i;obtain ⟨b, g, cs, rfl, ⟨a', d, rfl, k, f, -⟩, -⟩ := zAy h l;exact Nat.le_trans k f
theorem zJ2 (cs : List Value) (x : zBi) (w : World) (h : zAB.rd w cs x) :
    Calls Tryz.prog 94 #[zBq cs] w fun e L => e = .returned (.bool (zCd x)) ∧ Below w.heap.size w L := by
 obtain ⟨v0, v1, v2, v5, v6, v7, v8, rfl, r0, r1, i2, i3, r4, r5⟩ := zC7 h;clear h;obtain ⟨a0, c0, b0, d0, e0, l1, l2, l3, l4, q0, q1⟩ := zBO r0;simp only [List.cons.injEq, and_true] at e0;obtain ⟨rfl, rfl⟩ := e0;obtain ⟨a1, c1, e1, k1, k2, q2⟩ := r1;simp only [List.cons.injEq, and_true] at e1;obtain rfl := e1;obtain ⟨a4, c4, e4, j1, j2, g1, g2, q4⟩ := zBz r4;simp only [List.cons.injEq, and_true] at e4;obtain ⟨rfl, rfl, rfl⟩ := e4;obtain ⟨a5, c5, e5, m1, m2, q5⟩ := r5;simp only [List.cons.injEq, and_true] at e5;obtain rfl := e5;clear r0 r4;obtain ⟨c, p, j, Y, u, t⟩ := x;simp only at *
 have CB : p.length ≤ 9223372036854775807 := Nat.le_trans k1 k2;have IB : t.length ≤ 9223372036854775807 := Nat.le_trans m1 m2;have NB : u.2.2.length ≤ 9223372036854775807 := Nat.le_trans g1 g2;have KC : Hid _ := fun (W : World) (q : Below w.heap.size w W) => zG8 a0 b0 c c0 d0 W (zAm q0 q) (zAm q1 q) (Nat.le_trans l1 l2) (Nat.le_trans l3 l4) (zIo q0);have KP : Hid (∀ W, Below w.heap.size w W → zA4 opR W a1 p) := fun W q => zAm q2 q;have KL : Hid (∀ W, Calls Tryz.prog 148 #[.agg #[.int .i64 u.1, .int .i64 u.2.1, .slice a4 u.2.2.length c4]] W fun e L => e = .returned (.bool (zB3 u)) ∧ Below W.heap.size W L) := fun W => by rw [← zJc]; exact zEU _ _ _ _ _ W (Nat.le_trans g1 g2)
 have KF : Hid _ := fun (W : World) (q : Below w.heap.size w W) => zF5 u.1 u.2.1 u.2.2 a4 c4 W (zAm q4 q);have KA : Hid (∀ W, okB isL zAH c = true → Below w.heap.size w W → Calls Tryz.prog 150 #[.agg #[.slice a0 c.1.length c0, .slice b0 c.2.length d0], .int .i64 u.1] W fun e L => e = .returned (.int .i64 (zM6 (atC c u.1))) ∧ Below W.heap.size W L) := fun W hk q => zFB a0 b0 c c0 d0 u.1 W (zEQ.1 hk) (zAm q0 q);clear q0 q1 q2 q4 q5 l1 l2 l3 l4 k1 k2 g1 g2 m1 m2 i2 i3 j1 j2;change Calls Tryz.prog 94 #[.agg #[.slice a0 c.1.length c0, .slice b0 c.2.length d0, .slice a1 p.length c1, .int .i64 j, .int .i64 Y, .int .i64 u.1, .int .i64 u.2.1, .slice a4 u.2.2.length c4, .slice a5 t.length c5]] w _
 go_enter Tryz.func94, Tryz.ntmps94;go_wp2_with fail
 generalize dA : w.alloc _ = W0;have X := boxH dA;have B := boxB dA;clear dA;refine (KC.out _ B).mono ?_;rintro e w1 ⟨rfl, b1⟩;replace X := zAb b1 X;replace B := zAa B b1;clear b1 KC;obtain ⟨y0, y1, y2, y3, y4, y5, y6, y7, y8⟩ := zAh X;have HX : Hid _ := X;have E : Hid _ := B;clear X B;cases H : okB isL zAH c
 ·skip
  have r : Hid (zCd (c, p, j, Y, u, t) = false) := by unfold Hid zCd; simp [H]
  clear H;go_wp2;go_ret
  exact ⟨zAl r.out.symm, E.out⟩
 by_cases hn : p.length ≤ 30
 case neg =>
  have eB : (30 : Int) < (p.length : Int) := by omega
  have r : Hid (zCd (c, p, j, Y, u, t) = false) := by unfold Hid zCd; simp [hn]
  clear H hn;go_wp2;go_ret
  exact ⟨zAl r.out.symm, E.out⟩
 have eB : ¬ ((30 : Int) < (p.length : Int)) := by omega
 cases l : zA8 j 0 (p.length : Int)
 ·skip
  have r : Hid (zCd (c, p, j, Y, u, t) = false) := by unfold Hid zCd; simp [l]
  clear H;go_wp2_with (go_at_call 98; refine (zAo _ _ _ _).mono ?_; rintro e o ⟨rfl, a⟩; rw [a]; clear a o; first | rw [l] | rw [g] | rw [m])
  go_ret
  exact ⟨zAl r.out.symm, E.out⟩
 by_cases K : (t.length : Int) = j
 case neg =>
  have LA : ((t.length : Int) != j) = true := by simp [K]
  have r : Hid (zCd (c, p, j, Y, u, t) = false) := by unfold Hid zCd; simp [K]
  clear H K;go_wp2_with (go_at_call 98; refine (zAo _ _ _ _).mono ?_; rintro e o ⟨rfl, a⟩; rw [a]; clear a o; first | rw [l] | rw [g] | rw [m])
  go_ret
  exact ⟨zAl r.out.symm, E.out⟩
 have LA : ((t.length : Int) != j) = false := by simp [K]
 have U : Hid _ := K;have M : Hid _ := H;clear K H;cases g : zA8 Y 0 2
 ·skip
  have r : Hid (zCd (c, p, j, Y, u, t) = false) := by unfold Hid zCd; simp [g]
  clear U M;go_wp2_with (go_at_call 98; refine (zAo _ _ _ _).mono ?_; rintro e o ⟨rfl, a⟩; rw [a]; clear a o; first | rw [l] | rw [g] | rw [m])
  go_ret
  exact ⟨zAl r.out.symm, E.out⟩
 have h3 : Y = 0 ∨ Y = 1 ∨ Y = 2 := by simp [zA8] at g; omega
 have aA : Hid _ := g;clear g;rcases h3 with rfl | rfl | rfl
 ·skip
  have O : Hid (zCd (c, p, j, 0, u, t) = (p.all zB2 && zGI (c, p, j, 0, u, t))) := by unfold Hid zCd; simp [M.out, hn, l, U.out, aA.out]
  generalize hA : p.all zB2 = A at O;have V : Hid _ := hA;clear hA;have g : zA8 (0 : Int) 0 2 = true := by decide
  go_wp2_with (go_at_call 98; refine (zAo _ _ _ _).mono ?_; rintro e o ⟨rfl, a⟩; rw [a]; clear a o; first | rw [l] | rw [g] | rw [m])
  clear g;clear y0 y1 y2 y3 y4 y5 y6 y7 y8;go_loopw [4] (fun i wr => ∃ k : Nat, k ≤ p.length ∧ i = .int .i64 k ∧ (p.take k).all zB2 = true ∧ Below w1.heap.size w1 wr) (fun i _ => p.length - (intOf i).toNat)
  case atStart => exact ⟨0, Nat.zero_le _, rfl, rfl, Below.refl _ _⟩
  case round =>
   obtain ⟨k, hk, rfl, d, n⟩ := hrel;obtain ⟨y0, y1, y2, y3, y4, y5, y6, y7, y8⟩ := zAh (zAb n HX.out);by_cases C : k < p.length
   ·have bA : (k : Int) < (p.length : Int) := by omega
    obtain ⟨z, v⟩ : ∃ z, p[k]? = some z := ⟨_, List.getElem?_eq_getElem C⟩;obtain ⟨b, GA, rfl, x0, x1, x2, x3, -⟩ := zHi (KP.out _ (zAa E.out n)) v;cases q : zB2 z
    ·have HN : Hid (A = false) := by rw [← V.out]; exact zBZ v q
     have f : Hid _ := n;clear v d n;go_wp2_with (go_at_call 147; refine (zBH _ _ _ _ _).mono ?_; rintro e L ⟨rfl, F⟩; rw [show opB z.1 z.2.1 z.2.2.1 z.2.2.2 = _ from q])
     go_ret
     exact ⟨zAl (by rw [O.out, HN.out]; rfl), zAa (zAa E.out f.out) F⟩
    ·have HT : Hid ((p.take (k + 1)).all zB2 = true) := zCZ d v q;have f : Hid _ := n;clear v d n;go_wp2_with (go_at_call 147; refine (zBH _ _ _ _ _).mono ?_; rintro e L ⟨rfl, F⟩; rw [show opB z.1 z.2.1 z.2.2.1 z.2.2.2 = _ from q])
     go_roundw
     case rel => exact ⟨k + 1, by omega, by go_num, HT.out, zAa f.out F⟩
     case measure => simp [intOf]; omega
   ·have R : k = p.length := by omega
    subst R;rw [List.take_length] at d;have N : A = true := by rw [← V.out]; exact d
    subst N;have f : Hid (Below w.heap.size w wr) := zAa E.out n;have y : Hid _ := zAb n HX.out;clear d n C hk V;have r : Hid (zCd (c, p, j, 0, u, t) = zB3 u) := by unfold Hid; rw [O.out, Bool.true_and]; unfold zGI; exact if_neg (show ¬ ((0 : Int) = 1) by decide)
    go_wp2_with (go_at_call 148; refine (KL.out _).mono ?_; rintro e L ⟨rfl, F⟩)
    go_ret
    exact ⟨zAl r.out.symm, zAa f.out F⟩
 ·skip
  have O : Hid (zCd (c, p, j, 1, u, t) = (p.all zB2 && zGI (c, p, j, 1, u, t))) := by unfold Hid zCd; simp [M.out, hn, l, U.out, aA.out]
  generalize hA : p.all zB2 = A at O;have V : Hid _ := hA;clear hA;have g : zA8 (1 : Int) 0 2 = true := by decide
  go_wp2_with (go_at_call 98; refine (zAo _ _ _ _).mono ?_; rintro e o ⟨rfl, a⟩; rw [a]; clear a o; first | rw [l] | rw [g] | rw [m])
  clear g;clear y0 y1 y2 y3 y4 y5 y6 y7 y8;go_loopw [4] (fun i wr => ∃ k : Nat, k ≤ p.length ∧ i = .int .i64 k ∧ (p.take k).all zB2 = true ∧ Below w1.heap.size w1 wr) (fun i _ => p.length - (intOf i).toNat)
  case atStart => exact ⟨0, Nat.zero_le _, rfl, rfl, Below.refl _ _⟩
  case round =>
   obtain ⟨k, hk, rfl, d, n⟩ := hrel;obtain ⟨y0, y1, y2, y3, y4, y5, y6, y7, y8⟩ := zAh (zAb n HX.out);by_cases C : k < p.length
   ·have bA : (k : Int) < (p.length : Int) := by omega
    obtain ⟨z, v⟩ : ∃ z, p[k]? = some z := ⟨_, List.getElem?_eq_getElem C⟩;obtain ⟨b, GA, rfl, x0, x1, x2, x3, -⟩ := zHi (KP.out _ (zAa E.out n)) v;cases q : zB2 z
    ·have HN : Hid (A = false) := by rw [← V.out]; exact zBZ v q
     have f : Hid _ := n;clear v d n;go_wp2_with (go_at_call 147; refine (zBH _ _ _ _ _).mono ?_; rintro e L ⟨rfl, F⟩; rw [show opB z.1 z.2.1 z.2.2.1 z.2.2.2 = _ from q])
     go_ret
     exact ⟨zAl (by rw [O.out, HN.out]; rfl), zAa (zAa E.out f.out) F⟩
    ·have HT : Hid ((p.take (k + 1)).all zB2 = true) := zCZ d v q;have f : Hid _ := n;clear v d n;go_wp2_with (go_at_call 147; refine (zBH _ _ _ _ _).mono ?_; rintro e L ⟨rfl, F⟩; rw [show opB z.1 z.2.1 z.2.2.1 z.2.2.2 = _ from q])
     go_roundw
     case rel => exact ⟨k + 1, by omega, by go_num, HT.out, zAa f.out F⟩
     case measure => simp [intOf]; omega
   ·have R : k = p.length := by omega
    subst R;rw [List.take_length] at d;have N : A = true := by rw [← V.out]; exact d
    subst N;have f : Hid (Below w.heap.size w wr) := zAa E.out n;have y : Hid _ := zAb n HX.out;clear d n C hk V;have r : Hid (zCd (c, p, j, 1, u, t) = ((zEx u || zCC isL u) && decide (atC c u.1 = none))) := by unfold Hid; rw [O.out, Bool.true_and]; unfold zGI; exact if_pos rfl
    have Z : Hid _ := fun W => KA.out W M.out;clear KA;cases m : zA8 u.1 0 15
    ·have s : zEx u = false := by unfold zEx; rw [m]; rfl
     cases I : zCC isL u
     ·go_wp2_with (first | (go_at_call 98; refine (zAo _ _ _ _).mono ?_; rintro e o ⟨rfl, a⟩; rw [a]; clear a o; first | rw [l] | rw [g] | rw [m]) | (go_at_call 149; refine (KF.out _ f.out).mono ?_; rintro e wf ⟨rfl, D⟩; rw [I]; have J := zAa f.out D; obtain ⟨t0, t1, t2, t3, t4, t5, t6, t7, t8⟩ := zAh (zAb D y.out)))
      go_ret
      exact ⟨zAl (by rw [r.out, s, I]; rfl), J⟩
     ·go_wp2_with (first | (go_at_call 98; refine (zAo _ _ _ _).mono ?_; rintro e o ⟨rfl, a⟩; rw [a]; clear a o; first | rw [l] | rw [g] | rw [m]) | (go_at_call 149; refine (KF.out _ f.out).mono ?_; rintro e wf ⟨rfl, D⟩; rw [I]; have J := zAa f.out D; obtain ⟨t0, t1, t2, t3, t4, t5, t6, t7, t8⟩ := zAh (zAb D y.out)) | (go_at_call 150; refine (Z.out _ J).mono ?_; rintro e wa ⟨rfl, ba⟩))
      go_ret
      exact ⟨zAl (by rw [r.out, s, I]; simp [zIn]), zAa J ba⟩
    by_cases G : u.2.1 = 0
    case neg =>
     have bB : (u.2.1 == 0) = false := by simp [G]
     have s : zEx u = false := by unfold zEx; simp [G]
     clear G;cases I : zCC isL u
     ·go_wp2_with (first | (go_at_call 98; refine (zAo _ _ _ _).mono ?_; rintro e o ⟨rfl, a⟩; rw [a]; clear a o; first | rw [l] | rw [g] | rw [m]) | (go_at_call 149; refine (KF.out _ f.out).mono ?_; rintro e wf ⟨rfl, D⟩; rw [I]; have J := zAa f.out D; obtain ⟨t0, t1, t2, t3, t4, t5, t6, t7, t8⟩ := zAh (zAb D y.out)))
      go_ret
      exact ⟨zAl (by rw [r.out, s, I]; rfl), J⟩
     ·go_wp2_with (first | (go_at_call 98; refine (zAo _ _ _ _).mono ?_; rintro e o ⟨rfl, a⟩; rw [a]; clear a o; first | rw [l] | rw [g] | rw [m]) | (go_at_call 149; refine (KF.out _ f.out).mono ?_; rintro e wf ⟨rfl, D⟩; rw [I]; have J := zAa f.out D; obtain ⟨t0, t1, t2, t3, t4, t5, t6, t7, t8⟩ := zAh (zAb D y.out)) | (go_at_call 150; refine (Z.out _ J).mono ?_; rintro e wa ⟨rfl, ba⟩))
      go_ret
      exact ⟨zAl (by rw [r.out, s, I]; simp [zIn]), zAa J ba⟩
    have bB : (u.2.1 == 0) = true := by simp [G]
    by_cases T : u.2.2.length = 0
    case neg =>
     have ZA : ((u.2.2.length : Int) == 0) = false := beq_false_of_ne (by omega);have s : zEx u = false := by unfold zEx; simp [T]
     clear G T;cases I : zCC isL u
     ·go_wp2_with (first | (go_at_call 98; refine (zAo _ _ _ _).mono ?_; rintro e o ⟨rfl, a⟩; rw [a]; clear a o; first | rw [l] | rw [g] | rw [m]) | (go_at_call 149; refine (KF.out _ f.out).mono ?_; rintro e wf ⟨rfl, D⟩; rw [I]; have J := zAa f.out D; obtain ⟨t0, t1, t2, t3, t4, t5, t6, t7, t8⟩ := zAh (zAb D y.out)))
      go_ret
      exact ⟨zAl (by rw [r.out, s, I]; rfl), J⟩
     ·go_wp2_with (first | (go_at_call 98; refine (zAo _ _ _ _).mono ?_; rintro e o ⟨rfl, a⟩; rw [a]; clear a o; first | rw [l] | rw [g] | rw [m]) | (go_at_call 149; refine (KF.out _ f.out).mono ?_; rintro e wf ⟨rfl, D⟩; rw [I]; have J := zAa f.out D; obtain ⟨t0, t1, t2, t3, t4, t5, t6, t7, t8⟩ := zAh (zAb D y.out)) | (go_at_call 150; refine (Z.out _ J).mono ?_; rintro e wa ⟨rfl, ba⟩))
      go_ret
      exact ⟨zAl (by rw [r.out, s, I]; simp [zIn]), zAa J ba⟩
    have ZA : ((u.2.2.length : Int) == 0) = true := by simp [T]
    have s : zEx u = true := by unfold zEx; rw [m]; simp [G, T]
    clear G T;go_wp2_with (first | (go_at_call 98; refine (zAo _ _ _ _).mono ?_; rintro e o ⟨rfl, a⟩; rw [a]; clear a o; first | rw [l] | rw [g] | rw [m]) | (go_at_call 150; refine (Z.out _ f.out).mono ?_; rintro e wa ⟨rfl, ba⟩))
    go_ret
    exact ⟨zAl (by rw [r.out, s]; simp [zIn]), zAa f.out ba⟩
 ·by_cases S : j = (p.length : Int)
  ·have NA : (j == (p.length : Int)) = true := by simp [S]
   have g : zA8 (2 : Int) 0 2 = true := by decide
   have r : Hid (zCd (c, p, j, 2, u, t) = false) := by unfold Hid zCd; simp [S]
   clear U M aA S;go_wp2_with (go_at_call 98; refine (zAo _ _ _ _).mono ?_; rintro e o ⟨rfl, a⟩; rw [a]; clear a o; first | rw [l] | rw [g] | rw [m])
   go_ret
   exact ⟨zAl r.out.symm, E.out⟩
  ·have NA : (j == (p.length : Int)) = false := by simp [S]
   have O : Hid (zCd (c, p, j, 2, u, t) = (p.all zB2 && zGI (c, p, j, 2, u, t))) := by unfold Hid zCd; simp [M.out, hn, l, U.out, aA.out, S]
   generalize hA : p.all zB2 = A at O;have V : Hid _ := hA;clear hA;have g : zA8 (2 : Int) 0 2 = true := by decide
   go_wp2_with (go_at_call 98; refine (zAo _ _ _ _).mono ?_; rintro e o ⟨rfl, a⟩; rw [a]; clear a o; first | rw [l] | rw [g] | rw [m])
   clear g;clear y0 y1 y2 y3 y4 y5 y6 y7 y8;go_loopw [4] (fun i wr => ∃ k : Nat, k ≤ p.length ∧ i = .int .i64 k ∧ (p.take k).all zB2 = true ∧ Below w1.heap.size w1 wr) (fun i _ => p.length - (intOf i).toNat)
   case atStart => exact ⟨0, Nat.zero_le _, rfl, rfl, Below.refl _ _⟩
   case round =>
    obtain ⟨k, hk, rfl, d, n⟩ := hrel;obtain ⟨y0, y1, y2, y3, y4, y5, y6, y7, y8⟩ := zAh (zAb n HX.out);by_cases C : k < p.length
    ·have bA : (k : Int) < (p.length : Int) := by omega
     obtain ⟨z, v⟩ : ∃ z, p[k]? = some z := ⟨_, List.getElem?_eq_getElem C⟩;obtain ⟨b, GA, rfl, x0, x1, x2, x3, -⟩ := zHi (KP.out _ (zAa E.out n)) v;cases q : zB2 z
     ·have HN : Hid (A = false) := by rw [← V.out]; exact zBZ v q
      have f : Hid _ := n;clear v d n;go_wp2_with (go_at_call 147; refine (zBH _ _ _ _ _).mono ?_; rintro e L ⟨rfl, F⟩; rw [show opB z.1 z.2.1 z.2.2.1 z.2.2.2 = _ from q])
      go_ret
      exact ⟨zAl (by rw [O.out, HN.out]; rfl), zAa (zAa E.out f.out) F⟩
     ·have HT : Hid ((p.take (k + 1)).all zB2 = true) := zCZ d v q;have f : Hid _ := n;clear v d n;go_wp2_with (go_at_call 147; refine (zBH _ _ _ _ _).mono ?_; rintro e L ⟨rfl, F⟩; rw [show opB z.1 z.2.1 z.2.2.1 z.2.2.2 = _ from q])
      go_roundw
      case rel => exact ⟨k + 1, by omega, by go_num, HT.out, zAa f.out F⟩
      case measure => simp [intOf]; omega
    ·have R : k = p.length := by omega
     subst R;rw [List.take_length] at d;have N : A = true := by rw [← V.out]; exact d
     subst N;have f : Hid (Below w.heap.size w wr) := zAa E.out n;have y : Hid _ := zAb n HX.out;clear d n C hk V;have r : Hid (zCd (c, p, j, 2, u, t) = zB3 u) := by unfold Hid; rw [O.out, Bool.true_and]; unfold zGI; exact if_neg (show ¬ ((2 : Int) = 1) by decide)
     go_wp2_with (go_at_call 148; refine (KL.out _).mono ?_; rintro e L ⟨rfl, F⟩)
     go_ret
     exact ⟨zAl r.out.symm, zAa f.out F⟩
theorem zGJ {P : Program} {w : World} (base : Nat) (t ty e : TypeId) (i : TypeInfo) (size : Nat) (ht : P.underlying t = some (.slice e)) (hi : P.info? e = some i) (c : Nat)
    (v : Value) (n : Nat) (xs : List Value) (hown : w.ownsRow base e size v n xs) : (Builtin.append_ #[t, t] ty #[v, .slice none 0 c]).run P w = .ok v w := by
 rcases hown.2 with ⟨rfl, rfl⟩ | ⟨g, d, b, rfl, _, _, a, _⟩
 ·simp [Builtin.append_, run_underlying ht, sizeOf, typeInfo, hi, Builtin.lenOf, Builtin.firstCells]
 ·simp [Builtin.append_, run_underlying ht, sizeOf, typeInfo, hi, Builtin.lenOf, Builtin.firstCells, a, storeCells]
theorem zCK {P : Program} {w : World} {ops : Array Oper} {rest : List Oper} {o : Oper} {a : Act} {Q : Exit → Act → World → Prop} (hgd : o.guard = none) (s x : Operand) (t : TypeId)
    (ho : o.op = .call { callee := .builtin .append, args := #[s, x], argTypes := #[t, t] })
    (base : Nat) (e : TypeId) (i : TypeInfo) (size : Nat) (ht : P.underlying t = some (.slice e)) (hi : P.info? e = some i) (c : Nat)
    (v : Value) (n : Nat) (xs : List Value) (hs : a.eval s = v) (hown : w.ownsRow base e size v n xs) (hx : a.eval x = .slice none 0 c)
    (h : wpList P ops Q rest (a.put o.dst v) w) : wpList P ops Q (o :: rest) a w := by
 refine wpList_plain hgd fun K hK => ?_;have b := zGJ (P := P) (w := w) base t o.type e i size ht hi c v n xs hown;unfold Oper.wp;simp [execOp, ho, resolve, invoke, builtin, hs, hx, b, Result.andThen]
 exact hK _ _ h
theorem cell_kp3 (w : World) (o o' o'' : Obj) {b k : Nat} {u : Value} (h : w.cell? ⟨b, k, none⟩ = some u) : (((w.alloc o).alloc o').alloc o'').cell? ⟨b, k, none⟩ = some u := by
 have a := World.block_lt_of_cell? w _ h;simp only at a
 rw [World.cell?_alloc_past _ _ _ (by simp; omega), World.cell?_alloc_past _ _ _ (by simp; omega), World.cell?_alloc_past _ _ _ a, h]
theorem zDe (w : World) : zAI zA0 w (w.alloc (.cells #[] 2)) [.slice (some ⟨w.heap.size, 0, none⟩) 0 0] [] := by
 refine ⟨⟨_, [], fun _ => False, rfl, World.ownsRow_lit (base := 0) (e := 2) (size := 1) w #[] 0 (Nat.zero_le _) (Nat.zero_le _) rfl, fun g hg => ?_, fun _ h => h.elim, rfl⟩, zAf w _⟩;simp [Value.ownBlock] at hg
 subst hg;exact ⟨⟨Nat.le_refl _, by simp⟩, fun h => h⟩
theorem zM7 (cap : Nat) (w : World) : Calls Tryz.prog 100 #[.slice none 0 cap] w fun e w' => ∃ v, e = .returned v ∧ zAI zA0 w w' [v] [] := by
 obtain ⟨f, b, c, g, d⟩ := info_parts Tryz.infoI;have a : (w.alloc (.cells #[] 2)).ownsRow w.heap.size 2 1 (.slice (some ⟨w.heap.size, 0, none⟩) 0 0) 0 [] := World.ownsRow_lit _ #[] 0 (Nat.le_refl _) (Nat.zero_le _) rfl;go_enter Tryz.func100, Tryz.ntmps100;go_wp2_with (at_builtin; refine zCK rfl _ _ 37 rfl w.heap.size 2 f 1 Tryz.underlying37 b cap _ _ _ rfl a rfl ?_)
 go_ret
 exact ⟨_, rfl, zDe w⟩
theorem zEC (a : Option Addr) (xs : List Int) (cap : Nat) (w : World) (h : zA4 zAG w a xs) (hm : xs.length ≤ 1048576) :
    Calls Tryz.prog 100 #[.slice a xs.length cap] w fun e w' => ∃ v, e = .returned v ∧ zAI zA0 w w' [v] xs := by
 cases a with
 | some ad => exact (zLQ ad xs cap w (zBv h) hm).mono fun e w' ⟨v, h1, h2⟩ => ⟨v, h1, zDF h2 (zHO h)⟩
 | none =>
  rcases h with rfl | ⟨b, d, c, f, _⟩
  ·exact zM7 cap w
  ·cases f
theorem zFS (w : World) : Calls Tryz.prog 195 #[] w fun e w' => ∃ av cv, e = .returned (.agg #[.int .i64 (-1), .int .i64 0, .slice av 0 cv]) ∧ zAI zBu w w' [.int .i64 (-1), .int .i64 0, .slice av 0 cv] zB0 := by
 have M := zDe (w.alloc (.cells #[.int .i64 (-1), .int .i64 0, .slice (some ⟨w.heap.size + 1, 0, none⟩) 0 0] 88));have X := zA3 (.cells #[] 2) (zAn w (.cells #[.int .i64 (-1), .int .i64 0, .slice (some ⟨w.heap.size + 1, 0, none⟩) 0 0] 88));rw [zAv] at M;obtain ⟨r0, r1, r2⟩ := zCh X;go_enter Tryz.func195, Tryz.ntmps195;go_wp2;refine bodyPost_ret (v := .agg #[.int .i64 (-1), .int .i64 0, .slice (some ⟨w.heap.size + 1, 0, none⟩) 0 0]) (by simp [results, Tryz.results195, go_sem]) rfl ⟨_, _, rfl, zEP (by constructor <;> decide) (by constructor <;> decide) ?_, zAa (zAf w _) M.2⟩;exact zA0.own_mono M.1 (zAZ (by simp) (Nat.le_refl _))
theorem zK6 (w : World) (S : zBo) : zA0.own w S [.slice none 0 0] [] := ⟨_, [], fun _ => False, rfl, World.ownsRow_nil _ _ _ _, fun g hg => by simp [Value.ownBlock] at hg, fun _ h => h.elim, rfl⟩
theorem zK7 (w : World) : Calls Tryz.prog 156 #[] w fun e w' => ∃ av cv, e = .returned (.agg #[.int .i64 (-1), .int .i64 0, .slice av 0 cv]) ∧ zAI zBu w w' [.int .i64 (-1), .int .i64 0, .slice av 0 cv] zB0 := by
 go_enter Tryz.func156, Tryz.ntmps156;go_wp2;refine bodyPost_ret (v := .agg #[.int .i64 (-1), .int .i64 0, .slice none 0 0]) (by simp [results, Tryz.results156, go_sem]) rfl ⟨_, _, rfl, zEP (by constructor <;> decide) (by constructor <;> decide) (zK6 _ _), zAf w _⟩
theorem zIp (l s : Int) (d : List Int) (a : Option Addr) (cap : Nat) (w : World) (i1 : zAN l) (i2 : zAN s) (h : zA4 zAG w a d) (hm : d.length ≤ 1048576) :
    Calls Tryz.prog 197 #[.agg #[.int .i64 l, .int .i64 s, .slice a d.length cap]] w fun e w' => ∃ y A, e = .returned (.agg #[.int .i64 l, .int .i64 s, .slice y d.length A]) ∧ zAI zBu w w' [.int .i64 l, .int .i64 s, .slice y d.length A] (l, s, d) := by
 cases a with
 | some ad =>
  obtain ⟨R, J, G, H, D⟩ := info_parts Tryz.infoI;have T := zAa (zAf w (.cells #[.int .i64 l, .int .i64 s, .slice (some ad) d.length cap] 88)) (zAf _ (.cells #[.int .i64 0, .int .i64 0, .slice none 0 0] 88));have m := zA3 (.cells #[.int .i64 0, .int .i64 0, .slice none 0 0] 88) (zAn w (.cells #[.int .i64 l, .int .i64 s, .slice (some ad) d.length cap] 88));have i := zAn (w.alloc (.cells #[.int .i64 l, .int .i64 s, .slice (some ad) d.length cap] 88)) (.cells #[.int .i64 0, .int .i64 0, .slice none 0 0] 88);rw [zAv] at i;have B : ((w.alloc (.cells #[.int .i64 l, .int .i64 s, .slice (some ad) d.length cap] 88)).alloc (.cells #[.int .i64 0, .int .i64 0, .slice none 0 0] 88)).heap.size = w.heap.size + 1 + 1 := by simp
  have f : (((w.alloc (.cells #[.int .i64 l, .int .i64 s, .slice (some ad) d.length cap] 88)).alloc (.cells #[.int .i64 0, .int .i64 0, .slice none 0 0] 88)).alloc (.cells #[] 2)).ownsRow ((w.alloc (.cells #[.int .i64 l, .int .i64 s, .slice (some ad) d.length cap] 88)).alloc (.cells #[.int .i64 0, .int .i64 0, .slice none 0 0] 88)).heap.size 2 1 (.slice (some ⟨((w.alloc (.cells #[.int .i64 l, .int .i64 s, .slice (some ad) d.length cap] 88)).alloc (.cells #[.int .i64 0, .int .i64 0, .slice none 0 0] 88)).heap.size, 0, none⟩) 0 0) 0 [] := World.ownsRow_lit _ #[] 0 (Nat.le_refl _) (Nat.zero_le _) rfl;rw [B] at f;have F : Hid (zAN l ∧ zAN s) := ⟨i1, i2⟩;have HS : Hid (zDr w (some ad) d ∧ ∀ x ∈ d, zAN x) := ⟨zBv h, zHO h⟩;have L : Hid _ := And.intro m i;clear i1 i2 m i h;go_enter Tryz.func197, Tryz.ntmps197;go_wp2_with (at_builtin; refine wpList_append_own _ rfl _ _ 37 rfl (w.heap.size + 1 + 1) 2 R (.int .i64 0) 1 8 Tryz.underlying37 J G H D rfl (by decide) _ _ _ rfl f ad d.length cap (d.map (Value.int .i64)) rfl (by simp) ?c1 ?c2 ?c3 ?c4 ?c5 ?_)
  case c1 =>
   intro j u hj;obtain ⟨q, rfl⟩ := List.getElem?_eq_some_iff.1 hj;simp at q
   rcases HS.out.1 with rfl | ⟨b, r, I, hc⟩
   ·simp at q
   simp only [Option.some.injEq] at I;subst I;have g0 := hc j q;have V := cell_kp3 w (.cells #[.int .i64 l, .int .i64 s, .slice (some ⟨b, r, none⟩) d.length cap] 88) (.cells #[.int .i64 0, .int .i64 0, .slice none 0 0] 88) (.cells #[] 2) g0;rw [show (⟨b, r, none⟩ : Addr).add j = ⟨b, r + j, none⟩ from by simp [Addr.add], V];simp [List.getD_eq_getElem?_getD, q]
  case c2 => intro u X; simp at X; obtain ⟨x, _, rfl⟩ := X; rfl
  case c3 => unfold maxLen; omega
  case c4 => omega
  case c5 => simp
  ·intro Z S p n z;have Y : Z ≠ .slice none 0 0 := z;have k : S.ownsRow ((w.alloc (.cells #[.int .i64 l, .int .i64 s, .slice (some ad) d.length cap] 88)).alloc (.cells #[.int .i64 0, .int .i64 0, .slice none 0 0] 88)).heap.size 2 1 Z d.length (d.map (Value.int .i64)) := by rw [B]; simpa using p
   have C := zDF (zHN (w := (w.alloc (.cells #[.int .i64 l, .int .i64 s, .slice (some ad) d.length cap] 88)).alloc (.cells #[.int .i64 0, .int .i64 0, .slice none 0 0] 88)) k (by rw [B]; exact n) Y) HS.out.2;obtain ⟨y, A, rfl⟩ := zBx C.1;obtain ⟨m, i⟩ := L.out;have B1 := zAa T C.2;replace m := zAb C.2 m;replace i := zAb C.2 i;obtain ⟨y0, y1, y2⟩ := zCh m;obtain ⟨f0, f1, f2⟩ := zCA m;obtain ⟨z0, z1, z2⟩ := zCh i;obtain ⟨g0, V, g2⟩ := zCA i;have K : Hid (zA0.own S (rng ((w.alloc (.cells #[.int .i64 l, .int .i64 s, .slice (some ad) d.length cap] 88)).alloc (.cells #[.int .i64 0, .int .i64 0, .slice none 0 0] 88)).heap.size S.heap.size) [.slice y d.length A] d) := C.1;have O : Hid _ := And.intro m i;clear p n z f k C m i L Y;go_wp2;obtain ⟨m, i⟩ := O.out;have Y1 := put3 (a := .int .i64 l) (b := .int .i64 s) (c := .slice y d.length A) (zAp (g := w.heap.size) (o := 2) (v := .slice y d.length A) i (by omega));obtain ⟨r0, r1, r2⟩ := zCh Y1;refine bodyPost_ret (v := .agg #[.int .i64 l, .int .i64 s, .slice y d.length A]) (by simp [results, Tryz.results197, go_sem, r0, r1, r2]) rfl ⟨y, A, rfl, zEP F.out.1 F.out.2 ?_, ?_⟩
   ·refine zA0.own_mono (zAc (zAc (zAc (zAc K.out (fun h => by have := h.1; omega)) (fun h => by have := h.1; omega)) (fun h => by have := h.1; omega)) (fun h => by have := h.1; omega)) ?_;exact zAZ (by omega) (by simp)
   ·exact zAi (zAi (zAi (zAi B1 (by omega)) (by omega)) (by omega)) (by omega)
 | none =>
  obtain rfl : d = [] := by
   rcases h with h | ⟨b, r, U, I, _⟩
   ·exact h
   ·cases I
  rw [show ([] : List Int).length = 0 from rfl];obtain ⟨R, J, G, H, D⟩ := info_parts Tryz.infoI;have T := zAa (zAf w (.cells #[.int .i64 l, .int .i64 s, .slice none 0 cap] 88)) (zAf _ (.cells #[.int .i64 0, .int .i64 0, .slice none 0 0] 88));have m := zA3 (.cells #[.int .i64 0, .int .i64 0, .slice none 0 0] 88) (zAn w (.cells #[.int .i64 l, .int .i64 s, .slice none 0 cap] 88));have i := zAn (w.alloc (.cells #[.int .i64 l, .int .i64 s, .slice none 0 cap] 88)) (.cells #[.int .i64 0, .int .i64 0, .slice none 0 0] 88);rw [zAv] at i;have B : ((w.alloc (.cells #[.int .i64 l, .int .i64 s, .slice none 0 cap] 88)).alloc (.cells #[.int .i64 0, .int .i64 0, .slice none 0 0] 88)).heap.size = w.heap.size + 1 + 1 := by simp
  have f : (((w.alloc (.cells #[.int .i64 l, .int .i64 s, .slice none 0 cap] 88)).alloc (.cells #[.int .i64 0, .int .i64 0, .slice none 0 0] 88)).alloc (.cells #[] 2)).ownsRow ((w.alloc (.cells #[.int .i64 l, .int .i64 s, .slice none 0 cap] 88)).alloc (.cells #[.int .i64 0, .int .i64 0, .slice none 0 0] 88)).heap.size 2 1 (.slice (some ⟨((w.alloc (.cells #[.int .i64 l, .int .i64 s, .slice none 0 cap] 88)).alloc (.cells #[.int .i64 0, .int .i64 0, .slice none 0 0] 88)).heap.size, 0, none⟩) 0 0) 0 [] := World.ownsRow_lit _ #[] 0 (Nat.le_refl _) (Nat.zero_le _) rfl;rw [B] at f;have F : Hid (zAN l ∧ zAN s) := ⟨i1, i2⟩;have M := zDe ((w.alloc (.cells #[.int .i64 l, .int .i64 s, .slice none 0 cap] 88)).alloc (.cells #[.int .i64 0, .int .i64 0, .slice none 0 0] 88));rw [B] at M;have HM : Hid _ := M;have L : Hid _ := And.intro m i;clear i1 i2 M m i;go_enter Tryz.func197, Tryz.ntmps197;go_wp2_with (at_builtin; refine zCK rfl _ _ 37 rfl (w.heap.size + 1 + 1) 2 R 1 Tryz.underlying37 J cap _ _ _ rfl f rfl ?_)
  have N := zDe ((w.alloc (.cells #[.int .i64 l, .int .i64 s, .slice (some ⟨w.heap.size + 1 + 1, 0, none⟩) 0 0] 88)).alloc (.cells #[.int .i64 l, .int .i64 s, .slice (some ⟨w.heap.size + 1 + 1, 0, none⟩) 0 0] 88));have E : ((w.alloc (.cells #[.int .i64 l, .int .i64 s, .slice (some ⟨w.heap.size + 1 + 1, 0, none⟩) 0 0] 88)).alloc (.cells #[.int .i64 l, .int .i64 s, .slice (some ⟨w.heap.size + 1 + 1, 0, none⟩) 0 0] 88)).heap.size = w.heap.size + 1 + 1 := by simp
  rw [E] at N;refine bodyPost_ret (v := .agg #[.int .i64 l, .int .i64 s, .slice (some ⟨w.heap.size + 1 + 1, 0, none⟩) 0 0]) (by simp [results, Tryz.results197, go_sem]) rfl ⟨_, _, rfl, zEP F.out.1 F.out.2 (zA0.own_mono N.1 (zAZ (by rw [E]; omega) (Nat.le_refl _))), zAa (zAa (zAf w _) (zAf _ _)) N.2⟩
section
variable {α : Type}
end
section
variable {α : Type}
end
end Go.Proofs.YtcocbafhcpdheaaGreatDoor
