import Derived.Test.YtcocbafhcpdheaaGreatDoorS00Box
import Derived.Test.YtcocbafhcpdheaaGreatDoorS28
namespace Go.Proofs.YtcocbafhcpdheaaGreatDoor
set_option maxHeartbeats 8000000
set_option maxRecDepth 20000
open Go.ChangeShapes Go.WideShapes Go.ChangeAt Go.RowKit
set_option linter.unusedVariables false
def goneB (u : WayD) : Bool := betw u.1 0 15 && (decide (u.2.1 = 0) && decide (u.2.2.length = 0))
noncomputable def restC (x : CoreD) : Bool := if x.2.2.2.1 = 1 then (goneB x.2.2.2.2.1 || fullB isL x.2.2.2.2.1) && decide (atC x.1 x.2.2.2.2.1.1 = none) else clearB x.2.2.2.2.1
noncomputable def coreB (x : CoreD) : Bool := okB isL treeB x.1 && (decide (x.2.1.length ≤ 30) && (betw x.2.2.1 0 x.2.1.length && (decide ((x.2.2.2.2.2.length : Int) = x.2.2.1) && (betw x.2.2.2.1 0 2 && (!(decide (x.2.2.2.1 = 2) && decide (x.2.2.1 = (x.2.1.length : Int))) && (x.2.1.all opOkD && restC x))))))
theorem idx_neg (o : Option Nat) : decide (idxI o < 0) = decide (o = none) := by
 cases o with
 | none => rfl
 | some i => exact (decide_eq_false (show ¬ ((i : Int) < 0) by omega)).trans (decide_eq_false (by simp)).symm
theorem rows_len {w : World} {a : Option Addr} {xs : List (List WayD)} (h : SlRd waysR w a xs) : ∀ c ∈ xs, c.length ≤ maxLen := by
 intro c l;obtain ⟨j, f⟩ := List.getElem?_of_mem l;obtain ⟨b, i, cs, rfl, ⟨a', d, rfl, k, g, -⟩, -⟩ := slrd_at h f;exact Nat.le_trans k g
theorem specCoreOk_u (cs : List Value) (x : CoreD) (w : World) (h : coreR.rd w cs x) :
    Calls Tryz.prog 94 #[aggV cs] w fun e L => e = .returned (.bool (coreB x)) ∧ Below w.heap.size w L := by
 obtain ⟨v0, v1, v2, v5, v6, v7, v8, rfl, r0, r1, i2, i3, r4, r5⟩ := core_rd h;clear h;obtain ⟨a0, c0, b0, d0, e0, l1, l2, l3, l4, q0, q1⟩ := cache_rd r0;simp only [List.cons.injEq, and_true] at e0;obtain ⟨rfl, rfl⟩ := e0;obtain ⟨a1, c1, e1, k1, k2, q2⟩ := r1;simp only [List.cons.injEq, and_true] at e1;obtain rfl := e1;obtain ⟨a4, c4, e4, j1, j2, g1, g2, q4⟩ := way_rd r4;simp only [List.cons.injEq, and_true] at e4;obtain ⟨rfl, rfl, rfl⟩ := e4;obtain ⟨a5, c5, e5, m1, m2, q5⟩ := r5;simp only [List.cons.injEq, and_true] at e5;obtain rfl := e5;clear r0 r4;obtain ⟨c, p, j, Y, u, t⟩ := x;simp only at *
 have jB : p.length ≤ 9223372036854775807 := Nat.le_trans k1 k2;have lB : t.length ≤ 9223372036854775807 := Nat.le_trans m1 m2;have pB : u.2.2.length ≤ 9223372036854775807 := Nat.le_trans g1 g2;have KC : Hid _ := fun (W : World) (r : Below w.heap.size w W) => specCacheOk_any a0 b0 c c0 d0 W (slrd_next q0 r) (slrd_next q1 r) (Nat.le_trans l1 l2) (Nat.le_trans l3 l4) (rows_len q0);have KP : Hid (∀ W, Below w.heap.size w W → SlRd opR W a1 p) := fun W r => slrd_next q2 r;have KL : Hid (∀ W, Calls Tryz.prog 148 #[.agg #[.int .i64 u.1, .int .i64 u.2.1, .slice a4 u.2.2.length c4]] W fun e L => e = .returned (.bool (clearB u)) ∧ Below W.heap.size W L) := fun W => by rw [← clr_eq]; exact l6Clear_any _ _ _ _ _ W (Nat.le_trans g1 g2)
 have KF : Hid _ := fun (W : World) (r : Below w.heap.size w W) => l6Full_any u.1 u.2.1 u.2.2 a4 c4 W (slrd_next q4 r);have KA : Hid (∀ W, okB isL treeB c = true → Below w.heap.size w W → Calls Tryz.prog 150 #[.agg #[.slice a0 c.1.length c0, .slice b0 c.2.length d0], .int .i64 u.1] W fun e L => e = .returned (.int .i64 (idxI (atC c u.1))) ∧ Below W.heap.size W L) := fun W hk r => specAt_any a0 b0 c c0 d0 u.1 W (okB_iff.1 hk) (slrd_next q0 r);clear q0 q1 q2 q4 q5 l1 l2 l3 l4 k1 k2 g1 g2 m1 m2 i2 i3 j1 j2;change Calls Tryz.prog 94 #[.agg #[.slice a0 c.1.length c0, .slice b0 c.2.length d0, .slice a1 p.length c1, .int .i64 j, .int .i64 Y, .int .i64 u.1, .int .i64 u.2.1, .slice a4 u.2.2.length c4, .slice a5 t.length c5]] w _
 go_enter Tryz.func94, Tryz.ntmps94;go_wp2_with fail
 generalize dA : w.alloc _ = W0;have X := boxH dA;have B := boxB dA;clear dA;refine (KC.out _ B).mono ?_;rintro e w1 ⟨rfl, b1⟩;replace X := row_keep b1 X;replace B := below_step B b1;clear b1 KC;obtain ⟨y0, y1, y2, y3, y4, y5, y6, y7, y8⟩ := cells_core X;have HX : Hid _ := X;have G : Hid _ := B;clear X B;cases H : okB isL treeB c
 ·skip
  have q : Hid (coreB (c, p, j, Y, u, t) = false) := by unfold Hid coreB; simp [H]
  clear H;go_wp2;go_ret
  exact ⟨ret_bool q.out.symm, G.out⟩
 by_cases hn : p.length ≤ 30
 case neg =>
  have cB : (30 : Int) < (p.length : Int) := by omega
  have q : Hid (coreB (c, p, j, Y, u, t) = false) := by unfold Hid coreB; simp [hn]
  clear H hn;go_wp2;go_ret
  exact ⟨ret_bool q.out.symm, G.out⟩
 have cB : ¬ ((30 : Int) < (p.length : Int)) := by omega
 cases l : betw j 0 (p.length : Int)
 ·skip
  have q : Hid (coreB (c, p, j, Y, u, t) = false) := by unfold Hid coreB; simp [l]
  clear H;go_wp2_with (go_at_call 98; refine (l1In_any _ _ _ _).mono ?_; rintro e o ⟨rfl, a⟩; rw [a]; clear a o; first | rw [l] | rw [g] | rw [m])
  go_ret
  exact ⟨ret_bool q.out.symm, G.out⟩
 by_cases M : (t.length : Int) = j
 case neg =>
  have JA : ((t.length : Int) != j) = true := by simp [M]
  have q : Hid (coreB (c, p, j, Y, u, t) = false) := by unfold Hid coreB; simp [M]
  clear H M;go_wp2_with (go_at_call 98; refine (l1In_any _ _ _ _).mono ?_; rintro e o ⟨rfl, a⟩; rw [a]; clear a o; first | rw [l] | rw [g] | rw [m])
  go_ret
  exact ⟨ret_bool q.out.symm, G.out⟩
 have JA : ((t.length : Int) != j) = false := by simp [M]
 have R : Hid _ := M;have K : Hid _ := H;clear M H;cases g : betw Y 0 2
 ·skip
  have q : Hid (coreB (c, p, j, Y, u, t) = false) := by unfold Hid coreB; simp [g]
  clear R K;go_wp2_with (go_at_call 98; refine (l1In_any _ _ _ _).mono ?_; rintro e o ⟨rfl, a⟩; rw [a]; clear a o; first | rw [l] | rw [g] | rw [m])
  go_ret
  exact ⟨ret_bool q.out.symm, G.out⟩
 have h3 : Y = 0 ∨ Y = 1 ∨ Y = 2 := by simp [betw] at g; omega
 have aA : Hid _ := g;clear g;rcases h3 with rfl | rfl | rfl
 ·skip
  have V : Hid (coreB (c, p, j, 0, u, t) = (p.all opOkD && restC (c, p, j, 0, u, t))) := by unfold Hid coreB; simp [K.out, hn, l, R.out, aA.out]
  generalize hA : p.all opOkD = A at V;have T : Hid _ := hA;clear hA;have g : betw (0 : Int) 0 2 = true := by decide
  go_wp2_with (go_at_call 98; refine (l1In_any _ _ _ _).mono ?_; rintro e o ⟨rfl, a⟩; rw [a]; clear a o; first | rw [l] | rw [g] | rw [m])
  clear g;clear y0 y1 y2 y3 y4 y5 y6 y7 y8;go_loopw [4] (fun i wr => ∃ k : Nat, k ≤ p.length ∧ i = .int .i64 k ∧ (p.take k).all opOkD = true ∧ Below w1.heap.size w1 wr) (fun i _ => p.length - (intOf i).toNat)
  case atStart => exact ⟨0, Nat.zero_le _, rfl, rfl, Below.refl _ _⟩
  case round =>
   obtain ⟨k, hk, rfl, d, n⟩ := hrel;obtain ⟨y0, y1, y2, y3, y4, y5, y6, y7, y8⟩ := cells_core (row_keep n HX.out);by_cases C : k < p.length
   ·have bA : (k : Int) < (p.length : Int) := by omega
    obtain ⟨z, v⟩ : ∃ z, p[k]? = some z := ⟨_, List.getElem?_eq_getElem C⟩;obtain ⟨b, vA, rfl, x0, x1, x2, x3, -⟩ := op_at (KP.out _ (below_step G.out n)) v;cases r : opOkD z
    ·have HN : Hid (A = false) := by rw [← T.out]; exact all_not v r
     have f : Hid _ := n;clear v d n;go_wp2_with (go_at_call 147; refine (specOpOk_any _ _ _ _ _).mono ?_; rintro e L ⟨rfl, F⟩; rw [show opB z.1 z.2.1 z.2.2.1 z.2.2.2 = _ from r])
     go_ret
     exact ⟨ret_bool (by rw [V.out, HN.out]; rfl), below_step (below_step G.out f.out) F⟩
    ·have HT : Hid ((p.take (k + 1)).all opOkD = true) := all_step d v r;have f : Hid _ := n;clear v d n;go_wp2_with (go_at_call 147; refine (specOpOk_any _ _ _ _ _).mono ?_; rintro e L ⟨rfl, F⟩; rw [show opB z.1 z.2.1 z.2.2.1 z.2.2.2 = _ from r])
     go_roundw
     case rel => exact ⟨k + 1, by omega, by go_num, HT.out, below_step f.out F⟩
     case measure => simp [intOf]; omega
   ·have O : k = p.length := by omega
    subst O;rw [List.take_length] at d;have N : A = true := by rw [← T.out]; exact d
    subst N;have f : Hid (Below w.heap.size w wr) := below_step G.out n;have D : Hid _ := row_keep n HX.out;clear d n C hk T;have q : Hid (coreB (c, p, j, 0, u, t) = clearB u) := by unfold Hid; rw [V.out, Bool.true_and]; unfold restC; exact if_neg (show ¬ ((0 : Int) = 1) by decide)
    go_wp2_with (go_at_call 148; refine (KL.out _).mono ?_; rintro e L ⟨rfl, F⟩)
    go_ret
    exact ⟨ret_bool q.out.symm, below_step f.out F⟩
 ·skip
  have V : Hid (coreB (c, p, j, 1, u, t) = (p.all opOkD && restC (c, p, j, 1, u, t))) := by unfold Hid coreB; simp [K.out, hn, l, R.out, aA.out]
  generalize hA : p.all opOkD = A at V;have T : Hid _ := hA;clear hA;have g : betw (1 : Int) 0 2 = true := by decide
  go_wp2_with (go_at_call 98; refine (l1In_any _ _ _ _).mono ?_; rintro e o ⟨rfl, a⟩; rw [a]; clear a o; first | rw [l] | rw [g] | rw [m])
  clear g;clear y0 y1 y2 y3 y4 y5 y6 y7 y8;go_loopw [4] (fun i wr => ∃ k : Nat, k ≤ p.length ∧ i = .int .i64 k ∧ (p.take k).all opOkD = true ∧ Below w1.heap.size w1 wr) (fun i _ => p.length - (intOf i).toNat)
  case atStart => exact ⟨0, Nat.zero_le _, rfl, rfl, Below.refl _ _⟩
  case round =>
   obtain ⟨k, hk, rfl, d, n⟩ := hrel;obtain ⟨y0, y1, y2, y3, y4, y5, y6, y7, y8⟩ := cells_core (row_keep n HX.out);by_cases C : k < p.length
   ·have bA : (k : Int) < (p.length : Int) := by omega
    obtain ⟨z, v⟩ : ∃ z, p[k]? = some z := ⟨_, List.getElem?_eq_getElem C⟩;obtain ⟨b, vA, rfl, x0, x1, x2, x3, -⟩ := op_at (KP.out _ (below_step G.out n)) v;cases r : opOkD z
    ·have HN : Hid (A = false) := by rw [← T.out]; exact all_not v r
     have f : Hid _ := n;clear v d n;go_wp2_with (go_at_call 147; refine (specOpOk_any _ _ _ _ _).mono ?_; rintro e L ⟨rfl, F⟩; rw [show opB z.1 z.2.1 z.2.2.1 z.2.2.2 = _ from r])
     go_ret
     exact ⟨ret_bool (by rw [V.out, HN.out]; rfl), below_step (below_step G.out f.out) F⟩
    ·have HT : Hid ((p.take (k + 1)).all opOkD = true) := all_step d v r;have f : Hid _ := n;clear v d n;go_wp2_with (go_at_call 147; refine (specOpOk_any _ _ _ _ _).mono ?_; rintro e L ⟨rfl, F⟩; rw [show opB z.1 z.2.1 z.2.2.1 z.2.2.2 = _ from r])
     go_roundw
     case rel => exact ⟨k + 1, by omega, by go_num, HT.out, below_step f.out F⟩
     case measure => simp [intOf]; omega
   ·have O : k = p.length := by omega
    subst O;rw [List.take_length] at d;have N : A = true := by rw [← T.out]; exact d
    subst N;have f : Hid (Below w.heap.size w wr) := below_step G.out n;have D : Hid _ := row_keep n HX.out;clear d n C hk T;have q : Hid (coreB (c, p, j, 1, u, t) = ((goneB u || fullB isL u) && decide (atC c u.1 = none))) := by unfold Hid; rw [V.out, Bool.true_and]; unfold restC; exact if_pos rfl
    have Z : Hid _ := fun W => KA.out W K.out;clear KA;cases m : betw u.1 0 15
    ·have s : goneB u = false := by unfold goneB; rw [m]; rfl
     cases I : fullB isL u
     ·go_wp2_with (first | (go_at_call 98; refine (l1In_any _ _ _ _).mono ?_; rintro e o ⟨rfl, a⟩; rw [a]; clear a o; first | rw [l] | rw [g] | rw [m]) | (go_at_call 149; refine (KF.out _ f.out).mono ?_; rintro e wf ⟨rfl, y⟩; rw [I]; have J := below_step f.out y; obtain ⟨t0, t1, t2, t3, t4, t5, t6, t7, t8⟩ := cells_core (row_keep y D.out)))
      go_ret
      exact ⟨ret_bool (by rw [q.out, s, I]; rfl), J⟩
     ·go_wp2_with (first | (go_at_call 98; refine (l1In_any _ _ _ _).mono ?_; rintro e o ⟨rfl, a⟩; rw [a]; clear a o; first | rw [l] | rw [g] | rw [m]) | (go_at_call 149; refine (KF.out _ f.out).mono ?_; rintro e wf ⟨rfl, y⟩; rw [I]; have J := below_step f.out y; obtain ⟨t0, t1, t2, t3, t4, t5, t6, t7, t8⟩ := cells_core (row_keep y D.out)) | (go_at_call 150; refine (Z.out _ J).mono ?_; rintro e wa ⟨rfl, ba⟩))
      go_ret
      exact ⟨ret_bool (by rw [q.out, s, I]; simp [idx_neg]), below_step J ba⟩
    by_cases E : u.2.1 = 0
    case neg =>
     have XA : (u.2.1 == 0) = false := by simp [E]
     have s : goneB u = false := by unfold goneB; simp [E]
     clear E;cases I : fullB isL u
     ·go_wp2_with (first | (go_at_call 98; refine (l1In_any _ _ _ _).mono ?_; rintro e o ⟨rfl, a⟩; rw [a]; clear a o; first | rw [l] | rw [g] | rw [m]) | (go_at_call 149; refine (KF.out _ f.out).mono ?_; rintro e wf ⟨rfl, y⟩; rw [I]; have J := below_step f.out y; obtain ⟨t0, t1, t2, t3, t4, t5, t6, t7, t8⟩ := cells_core (row_keep y D.out)))
      go_ret
      exact ⟨ret_bool (by rw [q.out, s, I]; rfl), J⟩
     ·go_wp2_with (first | (go_at_call 98; refine (l1In_any _ _ _ _).mono ?_; rintro e o ⟨rfl, a⟩; rw [a]; clear a o; first | rw [l] | rw [g] | rw [m]) | (go_at_call 149; refine (KF.out _ f.out).mono ?_; rintro e wf ⟨rfl, y⟩; rw [I]; have J := below_step f.out y; obtain ⟨t0, t1, t2, t3, t4, t5, t6, t7, t8⟩ := cells_core (row_keep y D.out)) | (go_at_call 150; refine (Z.out _ J).mono ?_; rintro e wa ⟨rfl, ba⟩))
      go_ret
      exact ⟨ret_bool (by rw [q.out, s, I]; simp [idx_neg]), below_step J ba⟩
    have XA : (u.2.1 == 0) = true := by simp [E]
    by_cases S : u.2.2.length = 0
    case neg =>
     have fB : ((u.2.2.length : Int) == 0) = false := beq_false_of_ne (by omega);have s : goneB u = false := by unfold goneB; simp [S]
     clear E S;cases I : fullB isL u
     ·go_wp2_with (first | (go_at_call 98; refine (l1In_any _ _ _ _).mono ?_; rintro e o ⟨rfl, a⟩; rw [a]; clear a o; first | rw [l] | rw [g] | rw [m]) | (go_at_call 149; refine (KF.out _ f.out).mono ?_; rintro e wf ⟨rfl, y⟩; rw [I]; have J := below_step f.out y; obtain ⟨t0, t1, t2, t3, t4, t5, t6, t7, t8⟩ := cells_core (row_keep y D.out)))
      go_ret
      exact ⟨ret_bool (by rw [q.out, s, I]; rfl), J⟩
     ·go_wp2_with (first | (go_at_call 98; refine (l1In_any _ _ _ _).mono ?_; rintro e o ⟨rfl, a⟩; rw [a]; clear a o; first | rw [l] | rw [g] | rw [m]) | (go_at_call 149; refine (KF.out _ f.out).mono ?_; rintro e wf ⟨rfl, y⟩; rw [I]; have J := below_step f.out y; obtain ⟨t0, t1, t2, t3, t4, t5, t6, t7, t8⟩ := cells_core (row_keep y D.out)) | (go_at_call 150; refine (Z.out _ J).mono ?_; rintro e wa ⟨rfl, ba⟩))
      go_ret
      exact ⟨ret_bool (by rw [q.out, s, I]; simp [idx_neg]), below_step J ba⟩
    have fB : ((u.2.2.length : Int) == 0) = true := by simp [S]
    have s : goneB u = true := by unfold goneB; rw [m]; simp [E, S]
    clear E S;go_wp2_with (first | (go_at_call 98; refine (l1In_any _ _ _ _).mono ?_; rintro e o ⟨rfl, a⟩; rw [a]; clear a o; first | rw [l] | rw [g] | rw [m]) | (go_at_call 150; refine (Z.out _ f.out).mono ?_; rintro e wa ⟨rfl, ba⟩))
    go_ret
    exact ⟨ret_bool (by rw [q.out, s]; simp [idx_neg]), below_step f.out ba⟩
 ·by_cases U : j = (p.length : Int)
  ·have CA : (j == (p.length : Int)) = true := by simp [U]
   have g : betw (2 : Int) 0 2 = true := by decide
   have q : Hid (coreB (c, p, j, 2, u, t) = false) := by unfold Hid coreB; simp [U]
   clear R K aA U;go_wp2_with (go_at_call 98; refine (l1In_any _ _ _ _).mono ?_; rintro e o ⟨rfl, a⟩; rw [a]; clear a o; first | rw [l] | rw [g] | rw [m])
   go_ret
   exact ⟨ret_bool q.out.symm, G.out⟩
  ·have CA : (j == (p.length : Int)) = false := by simp [U]
   have V : Hid (coreB (c, p, j, 2, u, t) = (p.all opOkD && restC (c, p, j, 2, u, t))) := by unfold Hid coreB; simp [K.out, hn, l, R.out, aA.out, U]
   generalize hA : p.all opOkD = A at V;have T : Hid _ := hA;clear hA;have g : betw (2 : Int) 0 2 = true := by decide
   go_wp2_with (go_at_call 98; refine (l1In_any _ _ _ _).mono ?_; rintro e o ⟨rfl, a⟩; rw [a]; clear a o; first | rw [l] | rw [g] | rw [m])
   clear g;clear y0 y1 y2 y3 y4 y5 y6 y7 y8;go_loopw [4] (fun i wr => ∃ k : Nat, k ≤ p.length ∧ i = .int .i64 k ∧ (p.take k).all opOkD = true ∧ Below w1.heap.size w1 wr) (fun i _ => p.length - (intOf i).toNat)
   case atStart => exact ⟨0, Nat.zero_le _, rfl, rfl, Below.refl _ _⟩
   case round =>
    obtain ⟨k, hk, rfl, d, n⟩ := hrel;obtain ⟨y0, y1, y2, y3, y4, y5, y6, y7, y8⟩ := cells_core (row_keep n HX.out);by_cases C : k < p.length
    ·have bA : (k : Int) < (p.length : Int) := by omega
     obtain ⟨z, v⟩ : ∃ z, p[k]? = some z := ⟨_, List.getElem?_eq_getElem C⟩;obtain ⟨b, vA, rfl, x0, x1, x2, x3, -⟩ := op_at (KP.out _ (below_step G.out n)) v;cases r : opOkD z
     ·have HN : Hid (A = false) := by rw [← T.out]; exact all_not v r
      have f : Hid _ := n;clear v d n;go_wp2_with (go_at_call 147; refine (specOpOk_any _ _ _ _ _).mono ?_; rintro e L ⟨rfl, F⟩; rw [show opB z.1 z.2.1 z.2.2.1 z.2.2.2 = _ from r])
      go_ret
      exact ⟨ret_bool (by rw [V.out, HN.out]; rfl), below_step (below_step G.out f.out) F⟩
     ·have HT : Hid ((p.take (k + 1)).all opOkD = true) := all_step d v r;have f : Hid _ := n;clear v d n;go_wp2_with (go_at_call 147; refine (specOpOk_any _ _ _ _ _).mono ?_; rintro e L ⟨rfl, F⟩; rw [show opB z.1 z.2.1 z.2.2.1 z.2.2.2 = _ from r])
      go_roundw
      case rel => exact ⟨k + 1, by omega, by go_num, HT.out, below_step f.out F⟩
      case measure => simp [intOf]; omega
    ·have O : k = p.length := by omega
     subst O;rw [List.take_length] at d;have N : A = true := by rw [← T.out]; exact d
     subst N;have f : Hid (Below w.heap.size w wr) := below_step G.out n;have D : Hid _ := row_keep n HX.out;clear d n C hk T;have q : Hid (coreB (c, p, j, 2, u, t) = clearB u) := by unfold Hid; rw [V.out, Bool.true_and]; unfold restC; exact if_neg (show ¬ ((2 : Int) = 1) by decide)
     go_wp2_with (go_at_call 148; refine (KL.out _).mono ?_; rintro e L ⟨rfl, F⟩)
     go_ret
     exact ⟨ret_bool q.out.symm, below_step f.out F⟩
theorem run_append_zero {P : Program} {w : World} (base : Nat) (t ty e : TypeId) (i : TypeInfo) (size : Nat) (ht : P.underlying t = some (.slice e)) (hi : P.info? e = some i) (c : Nat)
    (v : Value) (n : Nat) (xs : List Value) (hown : w.ownsRow base e size v n xs) : (Builtin.append_ #[t, t] ty #[v, .slice none 0 c]).run P w = .ok v w := by
 rcases hown.2 with ⟨rfl, rfl⟩ | ⟨g, d, b, rfl, _, _, a, _⟩
 ·simp [Builtin.append_, run_underlying ht, sizeOf, typeInfo, hi, Builtin.lenOf, Builtin.firstCells]
 ·simp [Builtin.append_, run_underlying ht, sizeOf, typeInfo, hi, Builtin.lenOf, Builtin.firstCells, a, storeCells]
theorem wpList_append_zero {P : Program} {w : World} {ops : Array Oper} {rest : List Oper} {o : Oper} {a : Act} {Q : Exit → Act → World → Prop} (hgd : o.guard = none) (s x : Operand) (t : TypeId)
    (ho : o.op = .call { callee := .builtin .append, args := #[s, x], argTypes := #[t, t] })
    (base : Nat) (e : TypeId) (i : TypeInfo) (size : Nat) (ht : P.underlying t = some (.slice e)) (hi : P.info? e = some i) (c : Nat)
    (v : Value) (n : Nat) (xs : List Value) (hs : a.eval s = v) (hown : w.ownsRow base e size v n xs) (hx : a.eval x = .slice none 0 c)
    (h : wpList P ops Q rest (a.put o.dst v) w) : wpList P ops Q (o :: rest) a w := by
 refine wpList_plain hgd fun K hK => ?_;have b := run_append_zero (P := P) (w := w) base t o.type e i size ht hi c v n xs hown;unfold Oper.wp;simp [execOp, ho, resolve, invoke, builtin, hs, hx, b, Result.andThen]
 exact hK _ _ h
theorem cell_kp3 (w : World) (o o' o'' : Obj) {b k : Nat} {u : Value} (h : w.cell? ⟨b, k, none⟩ = some u) : (((w.alloc o).alloc o').alloc o'').cell? ⟨b, k, none⟩ = some u := by
 have a := World.block_lt_of_cell? w _ h;simp only at a
 rw [World.cell?_alloc_past _ _ _ (by simp; omega), World.cell?_alloc_past _ _ _ (by simp; omega), World.cell?_alloc_past _ _ _ a, h]
theorem made_nothing (w : World) : MadeR intsR w (w.alloc (.cells #[] 2)) [.slice (some ⟨w.heap.size, 0, none⟩) 0 0] [] := by
 refine ⟨⟨_, [], fun _ => False, rfl, World.ownsRow_lit (base := 0) (e := 2) (size := 1) w #[] 0 (Nat.zero_le _) (Nat.zero_le _) rfl, fun g hg => ?_, fun _ h => h.elim, rfl⟩, box_below w _⟩;simp [Value.ownBlock] at hg
 subst hg;exact ⟨⟨Nat.le_refl _, by simp⟩, fun h => h⟩
theorem emptyWay_any (w : World) : Calls Tryz.prog 195 #[] w fun e w' => ∃ av cv, e = .returned (.agg #[.int .i64 (-1), .int .i64 0, .slice av 0 cv]) ∧ MadeR wayR w w' [.int .i64 (-1), .int .i64 0, .slice av 0 cv] emptyW := by
 have M := made_nothing (w.alloc (.cells #[.int .i64 (-1), .int .i64 0, .slice (some ⟨w.heap.size + 1, 0, none⟩) 0 0] 88));have X := heap_on (.cells #[] 2) (heap_at w (.cells #[.int .i64 (-1), .int .i64 0, .slice (some ⟨w.heap.size + 1, 0, none⟩) 0 0] 88));rw [alloc_len] at M;obtain ⟨r0, r1, r2⟩ := cells_3 X;go_enter Tryz.func195, Tryz.ntmps195;go_wp2;refine bodyPost_ret (v := .agg #[.int .i64 (-1), .int .i64 0, .slice (some ⟨w.heap.size + 1, 0, none⟩) 0 0]) (by simp [results, Tryz.results195, go_sem]) rfl ⟨_, _, rfl, own_way (by constructor <;> decide) (by constructor <;> decide) ?_, below_step (box_below w _) M.2⟩;exact intsR.own_mono M.1 (rng_sub (by simp) (Nat.le_refl _))
theorem own_nothing (w : World) (S : Foot) : intsR.own w S [.slice none 0 0] [] := ⟨_, [], fun _ => False, rfl, World.ownsRow_nil _ _ _ _, fun g hg => by simp [Value.ownBlock] at hg, fun _ h => h.elim, rfl⟩
theorem l6Empty_any (w : World) : Calls Tryz.prog 156 #[] w fun e w' => ∃ av cv, e = .returned (.agg #[.int .i64 (-1), .int .i64 0, .slice av 0 cv]) ∧ MadeR wayR w w' [.int .i64 (-1), .int .i64 0, .slice av 0 cv] emptyW := by
 go_enter Tryz.func156, Tryz.ntmps156;go_wp2;refine bodyPost_ret (v := .agg #[.int .i64 (-1), .int .i64 0, .slice none 0 0]) (by simp [results, Tryz.results156, go_sem]) rfl ⟨_, _, rfl, own_way (by constructor <;> decide) (by constructor <;> decide) (own_nothing _ _), box_below w _⟩
theorem wayCopied_any (l s : Int) (d : List Int) (a : Option Addr) (cap : Nat) (w : World) (i1 : In64 l) (i2 : In64 s) (h : SlRd intR w a d) (hm : d.length ≤ 1048576) :
    Calls Tryz.prog 197 #[.agg #[.int .i64 l, .int .i64 s, .slice a d.length cap]] w fun e w' => ∃ A y, e = .returned (.agg #[.int .i64 l, .int .i64 s, .slice A d.length y]) ∧ MadeR wayR w w' [.int .i64 l, .int .i64 s, .slice A d.length y] (l, s, d) := by
 cases a with
 | some ad =>
  obtain ⟨L, S, H, D, G⟩ := info_parts Tryz.infoI;have Z := below_step (box_below w (.cells #[.int .i64 l, .int .i64 s, .slice (some ad) d.length cap] 88)) (box_below _ (.cells #[.int .i64 0, .int .i64 0, .slice none 0 0] 88));have m := heap_on (.cells #[.int .i64 0, .int .i64 0, .slice none 0 0] 88) (heap_at w (.cells #[.int .i64 l, .int .i64 s, .slice (some ad) d.length cap] 88));have i := heap_at (w.alloc (.cells #[.int .i64 l, .int .i64 s, .slice (some ad) d.length cap] 88)) (.cells #[.int .i64 0, .int .i64 0, .slice none 0 0] 88);rw [alloc_len] at i;have B : ((w.alloc (.cells #[.int .i64 l, .int .i64 s, .slice (some ad) d.length cap] 88)).alloc (.cells #[.int .i64 0, .int .i64 0, .slice none 0 0] 88)).heap.size = w.heap.size + 1 + 1 := by simp
  have f : (((w.alloc (.cells #[.int .i64 l, .int .i64 s, .slice (some ad) d.length cap] 88)).alloc (.cells #[.int .i64 0, .int .i64 0, .slice none 0 0] 88)).alloc (.cells #[] 2)).ownsRow ((w.alloc (.cells #[.int .i64 l, .int .i64 s, .slice (some ad) d.length cap] 88)).alloc (.cells #[.int .i64 0, .int .i64 0, .slice none 0 0] 88)).heap.size 2 1 (.slice (some ⟨((w.alloc (.cells #[.int .i64 l, .int .i64 s, .slice (some ad) d.length cap] 88)).alloc (.cells #[.int .i64 0, .int .i64 0, .slice none 0 0] 88)).heap.size, 0, none⟩) 0 0) 0 [] := World.ownsRow_lit _ #[] 0 (Nat.le_refl _) (Nat.zero_le _) rfl;rw [B] at f;have E : Hid (In64 l ∧ In64 s) := ⟨i1, i2⟩;have V : Hid (Reads w (some ad) d ∧ ∀ x ∈ d, In64 x) := ⟨reads_of h, in64_of h⟩;have R : Hid _ := And.intro m i;clear i1 i2 m i h;go_enter Tryz.func197, Tryz.ntmps197;go_wp2_with (at_builtin; refine wpList_append_own _ rfl _ _ 37 rfl (w.heap.size + 1 + 1) 2 L (.int .i64 0) 1 8 Tryz.underlying37 S H D G rfl (by decide) _ _ _ rfl f ad d.length cap (d.map (Value.int .i64)) rfl (by simp) ?c1 ?c2 ?c3 ?c4 ?c5 ?_)
  case c1 =>
   intro j u hj;obtain ⟨r, rfl⟩ := List.getElem?_eq_some_iff.1 hj;simp at r
   rcases V.out.1 with rfl | ⟨b, q, I, hc⟩
   ·simp at r
   simp only [Option.some.injEq] at I;subst I;have g0 := hc j r;have U := cell_kp3 w (.cells #[.int .i64 l, .int .i64 s, .slice (some ⟨b, q, none⟩) d.length cap] 88) (.cells #[.int .i64 0, .int .i64 0, .slice none 0 0] 88) (.cells #[] 2) g0;rw [show (⟨b, q, none⟩ : Addr).add j = ⟨b, q + j, none⟩ from by simp [Addr.add], U];simp [List.getD_eq_getElem?_getD, r]
  case c2 => intro u hu; simp at hu; obtain ⟨x, _, rfl⟩ := hu; rfl
  case c3 => unfold maxLen; omega
  case c4 => omega
  case c5 => simp
  ·intro T J p n z;have X : T ≠ .slice none 0 0 := z;have k : J.ownsRow ((w.alloc (.cells #[.int .i64 l, .int .i64 s, .slice (some ad) d.length cap] 88)).alloc (.cells #[.int .i64 0, .int .i64 0, .slice none 0 0] 88)).heap.size 2 1 T d.length (d.map (Value.int .i64)) := by rw [B]; simpa using p
   have C := madeR_ints (made_app (w := (w.alloc (.cells #[.int .i64 l, .int .i64 s, .slice (some ad) d.length cap] 88)).alloc (.cells #[.int .i64 0, .int .i64 0, .slice none 0 0] 88)) k (by rw [B]; exact n) X) V.out.2;obtain ⟨A, y, rfl⟩ := slown_val C.1;obtain ⟨m, i⟩ := R.out;have B1 := below_step Z C.2;replace m := row_keep C.2 m;replace i := row_keep C.2 i;obtain ⟨y0, y1, y2⟩ := cells_3 m;obtain ⟨f0, f1, f2⟩ := cells_froz m;obtain ⟨z0, z1, z2⟩ := cells_3 i;obtain ⟨g0, U, g2⟩ := cells_froz i;have O : Hid (intsR.own J (rng ((w.alloc (.cells #[.int .i64 l, .int .i64 s, .slice (some ad) d.length cap] 88)).alloc (.cells #[.int .i64 0, .int .i64 0, .slice none 0 0] 88)).heap.size J.heap.size) [.slice A d.length y] d) := C.1;have K : Hid _ := And.intro m i;clear p n z f k C m i R X;go_wp2;obtain ⟨m, i⟩ := K.out;have Y1 := put3 (a := .int .i64 l) (b := .int .i64 s) (c := .slice A d.length y) (heap_setC (g := w.heap.size) (o := 2) (v := .slice A d.length y) i (by omega));obtain ⟨r0, r1, r2⟩ := cells_3 Y1;refine bodyPost_ret (v := .agg #[.int .i64 l, .int .i64 s, .slice A d.length y]) (by simp [results, Tryz.results197, go_sem, r0, r1, r2]) rfl ⟨A, y, rfl, own_way E.out.1 E.out.2 ?_, ?_⟩
   ·refine intsR.own_mono (own_setC (own_setC (own_setC (own_setC O.out (fun h => by have := h.1; omega)) (fun h => by have := h.1; omega)) (fun h => by have := h.1; omega)) (fun h => by have := h.1; omega)) ?_;exact rng_sub (by omega) (by simp)
   ·exact below_setC (below_setC (below_setC (below_setC B1 (by omega)) (by omega)) (by omega)) (by omega)
 | none =>
  obtain rfl : d = [] := by
   rcases h with h | ⟨b, q, Y, I, _⟩
   ·exact h
   ·cases I
  rw [show ([] : List Int).length = 0 from rfl];obtain ⟨L, S, H, D, G⟩ := info_parts Tryz.infoI;have Z := below_step (box_below w (.cells #[.int .i64 l, .int .i64 s, .slice none 0 cap] 88)) (box_below _ (.cells #[.int .i64 0, .int .i64 0, .slice none 0 0] 88));have m := heap_on (.cells #[.int .i64 0, .int .i64 0, .slice none 0 0] 88) (heap_at w (.cells #[.int .i64 l, .int .i64 s, .slice none 0 cap] 88));have i := heap_at (w.alloc (.cells #[.int .i64 l, .int .i64 s, .slice none 0 cap] 88)) (.cells #[.int .i64 0, .int .i64 0, .slice none 0 0] 88);rw [alloc_len] at i;have B : ((w.alloc (.cells #[.int .i64 l, .int .i64 s, .slice none 0 cap] 88)).alloc (.cells #[.int .i64 0, .int .i64 0, .slice none 0 0] 88)).heap.size = w.heap.size + 1 + 1 := by simp
  have f : (((w.alloc (.cells #[.int .i64 l, .int .i64 s, .slice none 0 cap] 88)).alloc (.cells #[.int .i64 0, .int .i64 0, .slice none 0 0] 88)).alloc (.cells #[] 2)).ownsRow ((w.alloc (.cells #[.int .i64 l, .int .i64 s, .slice none 0 cap] 88)).alloc (.cells #[.int .i64 0, .int .i64 0, .slice none 0 0] 88)).heap.size 2 1 (.slice (some ⟨((w.alloc (.cells #[.int .i64 l, .int .i64 s, .slice none 0 cap] 88)).alloc (.cells #[.int .i64 0, .int .i64 0, .slice none 0 0] 88)).heap.size, 0, none⟩) 0 0) 0 [] := World.ownsRow_lit _ #[] 0 (Nat.le_refl _) (Nat.zero_le _) rfl;rw [B] at f;have E : Hid (In64 l ∧ In64 s) := ⟨i1, i2⟩;have M := made_nothing ((w.alloc (.cells #[.int .i64 l, .int .i64 s, .slice none 0 cap] 88)).alloc (.cells #[.int .i64 0, .int .i64 0, .slice none 0 0] 88));rw [B] at M;have HM : Hid _ := M;have R : Hid _ := And.intro m i;clear i1 i2 M m i;go_enter Tryz.func197, Tryz.ntmps197;go_wp2_with (at_builtin; refine wpList_append_zero rfl _ _ 37 rfl (w.heap.size + 1 + 1) 2 L 1 Tryz.underlying37 S cap _ _ _ rfl f rfl ?_)
  have N := made_nothing ((w.alloc (.cells #[.int .i64 l, .int .i64 s, .slice (some ⟨w.heap.size + 1 + 1, 0, none⟩) 0 0] 88)).alloc (.cells #[.int .i64 l, .int .i64 s, .slice (some ⟨w.heap.size + 1 + 1, 0, none⟩) 0 0] 88));have F : ((w.alloc (.cells #[.int .i64 l, .int .i64 s, .slice (some ⟨w.heap.size + 1 + 1, 0, none⟩) 0 0] 88)).alloc (.cells #[.int .i64 l, .int .i64 s, .slice (some ⟨w.heap.size + 1 + 1, 0, none⟩) 0 0] 88)).heap.size = w.heap.size + 1 + 1 := by simp
  rw [F] at N;refine bodyPost_ret (v := .agg #[.int .i64 l, .int .i64 s, .slice (some ⟨w.heap.size + 1 + 1, 0, none⟩) 0 0]) (by simp [results, Tryz.results197, go_sem]) rfl ⟨_, _, rfl, own_way E.out.1 E.out.2 (intsR.own_mono N.1 (rng_sub (by rw [F]; omega) (Nat.le_refl _))), below_step (below_step (box_below w _) (box_below _ _)) N.2⟩
section
variable {α : Type}
end
section
variable {α : Type}
end
end Go.Proofs.YtcocbafhcpdheaaGreatDoor
