import Derived.Test.YtdamokokcdcedaaGreatDoorG00Box
import Derived.Test.YtdamokokcdcedaaGreatDoorG28
import Derived.Deep.RegionHeld3
import Derived.Lib.SliceRun
import Derived.Deep.RegionLaw
namespace Go.Proofs.YtdamokokcdcedaaGreatDoor
set_option maxHeartbeats 8000000
set_option maxRecDepth 20000
open Go.ChangeShapes Go.WideShapes Go.ChangeAt Go.RowKit
set_option linter.unusedVariables false
def goneB (u : WayD) : Bool := betw u.1 0 15 && (decide (u.2.1 = 0) && decide (u.2.2.length = 0))
noncomputable def restC (x : CoreD) : Bool := if x.2.2.2.1 = 1 then (goneB x.2.2.2.2.1 || fullB isL x.2.2.2.2.1) && decide (atC x.1 x.2.2.2.2.1.1 = none) else clearB x.2.2.2.2.1
noncomputable def coreB (x : CoreD) : Bool := okB isL treeB x.1 && (decide (x.2.1.length ≤ 30) && (betw x.2.2.1 0 x.2.1.length && (decide ((x.2.2.2.2.2.length : Int) = x.2.2.1) && (betw x.2.2.2.1 0 2 && (!(decide (x.2.2.2.1 = 2) && decide (x.2.2.1 = (x.2.1.length : Int))) && (x.2.1.all opOkD && restC x))))))
theorem idx_neg (o : Option Nat) : decide (idxI o < 0) = decide (o = none) := by
 cases o with
 | none => rfl
 | some i => exact (decide_eq_false (show ¬ ((i : Int) < 0) by omega)).trans (decide_eq_false (by simp)).symm
theorem rows_len {w : World} {a : Option Addr} {xs : List (List WayD)} (h : SlRd waysR w a xs) : ∀ c ∈ xs, c.length ≤ maxLen := by
 intro c f;obtain ⟨j, l⟩ := List.getElem?_of_mem f;obtain ⟨b, g, cs, rfl, ⟨a', d, rfl, i, k, -⟩, -⟩ := slrd_at h l;exact Nat.le_trans i k
theorem specCoreOk_u (cs : List Value) (x : CoreD) (w : World) (h : coreR.rd w cs x) :
    Calls Tryz.prog 71 #[aggV cs] w fun e L => e = .returned (.bool (coreB x)) ∧ Bl w L := by
 obtain ⟨v0, v1, v2, v5, v6, v7, v8, rfl, r0, r1, i2, i3, r4, r5⟩ := core_rd h;clear h;obtain ⟨a0, c0, b0, d0, e0, l1, l2, l3, l4, q0, q1⟩ := cache_rd r0;simp only [List.cons.injEq, and_true] at e0;obtain ⟨rfl, rfl⟩ := e0;obtain ⟨a1, c1, e1, k1, k2, q2⟩ := r1;simp only [List.cons.injEq, and_true] at e1;obtain rfl := e1;obtain ⟨a4, c4, e4, j1, j2, g1, g2, q4⟩ := way_rd r4;simp only [List.cons.injEq, and_true] at e4;obtain ⟨rfl, rfl, rfl⟩ := e4;obtain ⟨a5, c5, e5, m1, m2, q5⟩ := r5;simp only [List.cons.injEq, and_true] at e5;obtain rfl := e5;clear r0 r4;obtain ⟨c, p, j, Y, u, t⟩ := x;simp only at *
 have JB : p.length ≤ 9223372036854775807 := Nat.le_trans k1 k2;have lB : t.length ≤ 9223372036854775807 := Nat.le_trans m1 m2;have iB : u.2.2.length ≤ 9223372036854775807 := Nat.le_trans g1 g2;have KC : Hid _ := fun (W : World) (r : Bl w W) => specCacheOk_any a0 b0 c c0 d0 W (slrd_next q0 r) (slrd_next q1 r) (Nat.le_trans l1 l2) (Nat.le_trans l3 l4) (rows_len q0);have KP : Hid (∀ W, Bl w W → SlRd opR W a1 p) := fun W r => slrd_next q2 r;have KL : Hid (∀ W, Calls Tryz.prog 58 #[.agg #[nI u.1, nI u.2.1, sL a4 u.2.2.length c4]] W fun e L => e = .returned (.bool (clearB u)) ∧ Bl W L) := fun W => by rw [← clr_eq]; exact l6Clear_any _ _ _ _ _ W (Nat.le_trans g1 g2)
 have KF : Hid _ := fun (W : World) (r : Bl w W) => l6Full_any u.1 u.2.1 u.2.2 a4 c4 W (slrd_next q4 r);have KA : Hid (∀ W, okB isL treeB c = true → Bl w W → Calls Tryz.prog 136 #[.agg #[sL a0 c.1.length c0, sL b0 c.2.length d0], nI u.1] W fun e L => e = .returned (nI (idxI (atC c u.1))) ∧ Bl W L) := fun W hk r => specAt_any a0 b0 c c0 d0 u.1 W (okB_iff.1 hk) (slrd_next q0 r);clear q0 q1 q2 q4 q5 l1 l2 l3 l4 k1 k2 g1 g2 m1 m2 i2 i3 j1 j2;change Calls Tryz.prog 71 #[.agg #[sL a0 c.1.length c0, sL b0 c.2.length d0, sL a1 p.length c1, nI j, nI Y, nI u.1, nI u.2.1, sL a4 u.2.2.length c4, sL a5 t.length c5]] w _
 go_enter Tryz.func71, Tryz.ntmps71;go_wp2_with fail
 generalize eA : w.alloc _ = W0;have X := boxH eA;have B := boxB eA;clear eA;refine (KC.out _ B).mono ?_;rintro e w1 ⟨rfl, b1⟩;replace X := row_keep b1 X;replace B := below_step B b1;clear b1 KC;obtain ⟨y0, y1, y2, y3, y4, y5, y6, y7, y8⟩ := cells_core X;have HX : Hid _ := X;have E : Hid _ := B;clear X B;cases F : okB isL treeB c
 ·skip
  have q : Hid (coreB (c, p, j, Y, u, t) = false) := by unfold Hid coreB; simp [F]
  clear F;go_wp2;go_ret
  exact ⟨ret_bool q.out.symm, E.out⟩
 by_cases hn : p.length ≤ 30
 case neg =>
  have ZA : (30 : Int) < (p.length : Int) := by omega
  have q : Hid (coreB (c, p, j, Y, u, t) = false) := by unfold Hid coreB; simp [hn]
  clear F hn;go_wp2;go_ret
  exact ⟨ret_bool q.out.symm, E.out⟩
 have ZA : ¬ ((30 : Int) < (p.length : Int)) := by omega
 cases l : betw j 0 (p.length : Int)
 ·skip
  have q : Hid (coreB (c, p, j, Y, u, t) = false) := by unfold Hid coreB; simp [l]
  clear F;go_wp2_with (go_at_call 126; refine (l1In_any _ _ _ _).mono ?_; rintro e o ⟨rfl, a⟩; rw [a]; clear a o; first | rw [l] | rw [g] | rw [m])
  go_ret
  exact ⟨ret_bool q.out.symm, E.out⟩
 by_cases M : (t.length : Int) = j
 case neg =>
  have JA : ((t.length : Int) != j) = true := by simp [M]
  have q : Hid (coreB (c, p, j, Y, u, t) = false) := by unfold Hid coreB; simp [M]
  clear F M;go_wp2_with (go_at_call 126; refine (l1In_any _ _ _ _).mono ?_; rintro e o ⟨rfl, a⟩; rw [a]; clear a o; first | rw [l] | rw [g] | rw [m])
  go_ret
  exact ⟨ret_bool q.out.symm, E.out⟩
 have JA : ((t.length : Int) != j) = false := by simp [M]
 have T : Hid _ := M;have K : Hid _ := F;clear M F;cases g : betw Y 0 2
 ·skip
  have q : Hid (coreB (c, p, j, Y, u, t) = false) := by unfold Hid coreB; simp [g]
  clear T K;go_wp2_with (go_at_call 126; refine (l1In_any _ _ _ _).mono ?_; rintro e o ⟨rfl, a⟩; rw [a]; clear a o; first | rw [l] | rw [g] | rw [m])
  go_ret
  exact ⟨ret_bool q.out.symm, E.out⟩
 have h3 : Y = 0 ∨ Y = 1 ∨ Y = 2 := by simp [betw] at g; omega
 have Z : Hid _ := g;clear g;rcases h3 with rfl | rfl | rfl
 ·skip
  have O : Hid (coreB (c, p, j, 0, u, t) = (p.all opOkD && restC (c, p, j, 0, u, t))) := by unfold Hid coreB; simp [K.out, hn, l, T.out, Z.out]
  generalize hA : p.all opOkD = A at O;have U : Hid _ := hA;clear hA;have g : betw (0 : Int) 0 2 = true := by decide
  go_wp2_with (go_at_call 126; refine (l1In_any _ _ _ _).mono ?_; rintro e o ⟨rfl, a⟩; rw [a]; clear a o; first | rw [l] | rw [g] | rw [m])
  clear g y0 y1 y2 y3 y4 y5 y6 y7 y8;go_loopw [4] (fun i wr => ∃ k : Nat, k ≤ p.length ∧ i = nI k ∧ (p.take k).all opOkD = true ∧ Bl w1 wr) (fun i _ => p.length - (intOf i).toNat)
  case atStart => exact ⟨0, Nat.zero_le _, rfl, rfl, Below.refl _ _⟩
  case round =>
   obtain ⟨k, hk, rfl, d, n⟩ := hrel;obtain ⟨y0, y1, y2, y3, y4, y5, y6, y7, y8⟩ := cells_core (row_keep n HX.out);by_cases y : k < p.length
   ·have bA : (k : Int) < (p.length : Int) := by omega
    obtain ⟨z, D⟩ : ∃ z, p[k]? = some z := ⟨_, List.getElem?_eq_getElem y⟩;obtain ⟨b, AA, rfl, x0, x1, x2, x3, -⟩ := op_at (KP.out _ (below_step E.out n)) D;cases r : opOkD z
    ·have HN : Hid (A = false) := by rw [← U.out]; exact all_not D r
     have f : Hid _ := n;clear D d n;go_wp2_with (go_at_call 134; refine (specOpOk_any _ _ _ _ _).mono ?_; rintro e L ⟨rfl, G⟩; rw [show opB z.1 z.2.1 z.2.2.1 z.2.2.2 = _ from r])
     go_ret
     exact ⟨ret_bool (by rw [O.out, HN.out]; rfl), below_step (below_step E.out f.out) G⟩
    ·have HT : Hid ((p.take (k + 1)).all opOkD = true) := all_step d D r;have f : Hid _ := n;clear D d n;go_wp2_with (go_at_call 134; refine (specOpOk_any _ _ _ _ _).mono ?_; rintro e L ⟨rfl, G⟩; rw [show opB z.1 z.2.1 z.2.2.1 z.2.2.2 = _ from r])
     go_roundw
     case rel => exact ⟨k + 1, by omega, by go_num, HT.out, below_step f.out G⟩
     case measure => simp [intOf]; omega
   ·have N : k = p.length := by omega
    subst N;rw [List.take_length] at d;have S : A = true := by rw [← U.out]; exact d
    subst S;have f : Hid (Bl w wr) := below_step E.out n;have v : Hid _ := row_keep n HX.out;clear d n y hk U;have q : Hid (coreB (c, p, j, 0, u, t) = clearB u) := by unfold Hid; rw [O.out, Bool.true_and]; unfold restC; exact if_neg (show ¬ ((0 : Int) = 1) by decide)
    go_wp2_with (go_at_call 58; refine (KL.out _).mono ?_; rintro e L ⟨rfl, G⟩)
    go_ret
    exact ⟨ret_bool q.out.symm, below_step f.out G⟩
 ·skip
  have O : Hid (coreB (c, p, j, 1, u, t) = (p.all opOkD && restC (c, p, j, 1, u, t))) := by unfold Hid coreB; simp [K.out, hn, l, T.out, Z.out]
  generalize hA : p.all opOkD = A at O;have U : Hid _ := hA;clear hA;have g : betw (1 : Int) 0 2 = true := by decide
  go_wp2_with (go_at_call 126; refine (l1In_any _ _ _ _).mono ?_; rintro e o ⟨rfl, a⟩; rw [a]; clear a o; first | rw [l] | rw [g] | rw [m])
  clear g y0 y1 y2 y3 y4 y5 y6 y7 y8;go_loopw [4] (fun i wr => ∃ k : Nat, k ≤ p.length ∧ i = nI k ∧ (p.take k).all opOkD = true ∧ Bl w1 wr) (fun i _ => p.length - (intOf i).toNat)
  case atStart => exact ⟨0, Nat.zero_le _, rfl, rfl, Below.refl _ _⟩
  case round =>
   obtain ⟨k, hk, rfl, d, n⟩ := hrel;obtain ⟨y0, y1, y2, y3, y4, y5, y6, y7, y8⟩ := cells_core (row_keep n HX.out);by_cases y : k < p.length
   ·have bA : (k : Int) < (p.length : Int) := by omega
    obtain ⟨z, D⟩ : ∃ z, p[k]? = some z := ⟨_, List.getElem?_eq_getElem y⟩;obtain ⟨b, AA, rfl, x0, x1, x2, x3, -⟩ := op_at (KP.out _ (below_step E.out n)) D;cases r : opOkD z
    ·have HN : Hid (A = false) := by rw [← U.out]; exact all_not D r
     have f : Hid _ := n;clear D d n;go_wp2_with (go_at_call 134; refine (specOpOk_any _ _ _ _ _).mono ?_; rintro e L ⟨rfl, G⟩; rw [show opB z.1 z.2.1 z.2.2.1 z.2.2.2 = _ from r])
     go_ret
     exact ⟨ret_bool (by rw [O.out, HN.out]; rfl), below_step (below_step E.out f.out) G⟩
    ·have HT : Hid ((p.take (k + 1)).all opOkD = true) := all_step d D r;have f : Hid _ := n;clear D d n;go_wp2_with (go_at_call 134; refine (specOpOk_any _ _ _ _ _).mono ?_; rintro e L ⟨rfl, G⟩; rw [show opB z.1 z.2.1 z.2.2.1 z.2.2.2 = _ from r])
     go_roundw
     case rel => exact ⟨k + 1, by omega, by go_num, HT.out, below_step f.out G⟩
     case measure => simp [intOf]; omega
   ·have N : k = p.length := by omega
    subst N;rw [List.take_length] at d;have S : A = true := by rw [← U.out]; exact d
    subst S;have f : Hid (Bl w wr) := below_step E.out n;have v : Hid _ := row_keep n HX.out;clear d n y hk U;have q : Hid (coreB (c, p, j, 1, u, t) = ((goneB u || fullB isL u) && decide (atC c u.1 = none))) := by unfold Hid; rw [O.out, Bool.true_and]; unfold restC; exact if_pos rfl
    have aA : Hid _ := fun W => KA.out W K.out;clear KA;cases m : betw u.1 0 15
    ·have s : goneB u = false := by unfold goneB; rw [m]; rfl
     cases I : fullB isL u
     ·go_wp2_with (first | (go_at_call 126; refine (l1In_any _ _ _ _).mono ?_; rintro e o ⟨rfl, a⟩; rw [a]; clear a o; first | rw [l] | rw [g] | rw [m]) | (go_at_call 135; refine (KF.out _ f.out).mono ?_; rintro e wf ⟨rfl, C⟩; rw [I]; have J := below_step f.out C; obtain ⟨t0, t1, t2, t3, t4, t5, t6, t7, t8⟩ := cells_core (row_keep C v.out)))
      go_ret
      exact ⟨ret_bool (by rw [q.out, s, I]; rfl), J⟩
     ·go_wp2_with (first | (go_at_call 126; refine (l1In_any _ _ _ _).mono ?_; rintro e o ⟨rfl, a⟩; rw [a]; clear a o; first | rw [l] | rw [g] | rw [m]) | (go_at_call 135; refine (KF.out _ f.out).mono ?_; rintro e wf ⟨rfl, C⟩; rw [I]; have J := below_step f.out C; obtain ⟨t0, t1, t2, t3, t4, t5, t6, t7, t8⟩ := cells_core (row_keep C v.out)) | (go_at_call 136; refine (aA.out _ J).mono ?_; rintro e wa ⟨rfl, ba⟩))
      go_ret
      exact ⟨ret_bool (by rw [q.out, s, I]; simp [idx_neg]), below_step J ba⟩
    by_cases H : u.2.1 = 0
    case neg =>
     have dB : (u.2.1 == 0) = false := by simp [H]
     have s : goneB u = false := by unfold goneB; simp [H]
     clear H;cases I : fullB isL u
     ·go_wp2_with (first | (go_at_call 126; refine (l1In_any _ _ _ _).mono ?_; rintro e o ⟨rfl, a⟩; rw [a]; clear a o; first | rw [l] | rw [g] | rw [m]) | (go_at_call 135; refine (KF.out _ f.out).mono ?_; rintro e wf ⟨rfl, C⟩; rw [I]; have J := below_step f.out C; obtain ⟨t0, t1, t2, t3, t4, t5, t6, t7, t8⟩ := cells_core (row_keep C v.out)))
      go_ret
      exact ⟨ret_bool (by rw [q.out, s, I]; rfl), J⟩
     ·go_wp2_with (first | (go_at_call 126; refine (l1In_any _ _ _ _).mono ?_; rintro e o ⟨rfl, a⟩; rw [a]; clear a o; first | rw [l] | rw [g] | rw [m]) | (go_at_call 135; refine (KF.out _ f.out).mono ?_; rintro e wf ⟨rfl, C⟩; rw [I]; have J := below_step f.out C; obtain ⟨t0, t1, t2, t3, t4, t5, t6, t7, t8⟩ := cells_core (row_keep C v.out)) | (go_at_call 136; refine (aA.out _ J).mono ?_; rintro e wa ⟨rfl, ba⟩))
      go_ret
      exact ⟨ret_bool (by rw [q.out, s, I]; simp [idx_neg]), below_step J ba⟩
    have dB : (u.2.1 == 0) = true := by simp [H]
    by_cases V : u.2.2.length = 0
    case neg =>
     have gB : ((u.2.2.length : Int) == 0) = false := beq_false_of_ne (by omega);have s : goneB u = false := by unfold goneB; simp [V]
     clear H V;cases I : fullB isL u
     ·go_wp2_with (first | (go_at_call 126; refine (l1In_any _ _ _ _).mono ?_; rintro e o ⟨rfl, a⟩; rw [a]; clear a o; first | rw [l] | rw [g] | rw [m]) | (go_at_call 135; refine (KF.out _ f.out).mono ?_; rintro e wf ⟨rfl, C⟩; rw [I]; have J := below_step f.out C; obtain ⟨t0, t1, t2, t3, t4, t5, t6, t7, t8⟩ := cells_core (row_keep C v.out)))
      go_ret
      exact ⟨ret_bool (by rw [q.out, s, I]; rfl), J⟩
     ·go_wp2_with (first | (go_at_call 126; refine (l1In_any _ _ _ _).mono ?_; rintro e o ⟨rfl, a⟩; rw [a]; clear a o; first | rw [l] | rw [g] | rw [m]) | (go_at_call 135; refine (KF.out _ f.out).mono ?_; rintro e wf ⟨rfl, C⟩; rw [I]; have J := below_step f.out C; obtain ⟨t0, t1, t2, t3, t4, t5, t6, t7, t8⟩ := cells_core (row_keep C v.out)) | (go_at_call 136; refine (aA.out _ J).mono ?_; rintro e wa ⟨rfl, ba⟩))
      go_ret
      exact ⟨ret_bool (by rw [q.out, s, I]; simp [idx_neg]), below_step J ba⟩
    have gB : ((u.2.2.length : Int) == 0) = true := by simp [V]
    have s : goneB u = true := by unfold goneB; rw [m]; simp [H, V]
    clear H V;go_wp2_with (first | (go_at_call 126; refine (l1In_any _ _ _ _).mono ?_; rintro e o ⟨rfl, a⟩; rw [a]; clear a o; first | rw [l] | rw [g] | rw [m]) | (go_at_call 136; refine (aA.out _ f.out).mono ?_; rintro e wa ⟨rfl, ba⟩))
    go_ret
    exact ⟨ret_bool (by rw [q.out, s]; simp [idx_neg]), below_step f.out ba⟩
 ·by_cases R : j = (p.length : Int)
  ·have BA : (j == (p.length : Int)) = true := by simp [R]
   have g : betw (2 : Int) 0 2 = true := by decide
   have q : Hid (coreB (c, p, j, 2, u, t) = false) := by unfold Hid coreB; simp [R]
   clear T K Z R;go_wp2_with (go_at_call 126; refine (l1In_any _ _ _ _).mono ?_; rintro e o ⟨rfl, a⟩; rw [a]; clear a o; first | rw [l] | rw [g] | rw [m])
   go_ret
   exact ⟨ret_bool q.out.symm, E.out⟩
  ·have BA : (j == (p.length : Int)) = false := by simp [R]
   have O : Hid (coreB (c, p, j, 2, u, t) = (p.all opOkD && restC (c, p, j, 2, u, t))) := by unfold Hid coreB; simp [K.out, hn, l, T.out, Z.out, R]
   generalize hA : p.all opOkD = A at O;have U : Hid _ := hA;clear hA;have g : betw (2 : Int) 0 2 = true := by decide
   go_wp2_with (go_at_call 126; refine (l1In_any _ _ _ _).mono ?_; rintro e o ⟨rfl, a⟩; rw [a]; clear a o; first | rw [l] | rw [g] | rw [m])
   clear g y0 y1 y2 y3 y4 y5 y6 y7 y8;go_loopw [4] (fun i wr => ∃ k : Nat, k ≤ p.length ∧ i = nI k ∧ (p.take k).all opOkD = true ∧ Bl w1 wr) (fun i _ => p.length - (intOf i).toNat)
   case atStart => exact ⟨0, Nat.zero_le _, rfl, rfl, Below.refl _ _⟩
   case round =>
    obtain ⟨k, hk, rfl, d, n⟩ := hrel;obtain ⟨y0, y1, y2, y3, y4, y5, y6, y7, y8⟩ := cells_core (row_keep n HX.out);by_cases y : k < p.length
    ·have bA : (k : Int) < (p.length : Int) := by omega
     obtain ⟨z, D⟩ : ∃ z, p[k]? = some z := ⟨_, List.getElem?_eq_getElem y⟩;obtain ⟨b, AA, rfl, x0, x1, x2, x3, -⟩ := op_at (KP.out _ (below_step E.out n)) D;cases r : opOkD z
     ·have HN : Hid (A = false) := by rw [← U.out]; exact all_not D r
      have f : Hid _ := n;clear D d n;go_wp2_with (go_at_call 134; refine (specOpOk_any _ _ _ _ _).mono ?_; rintro e L ⟨rfl, G⟩; rw [show opB z.1 z.2.1 z.2.2.1 z.2.2.2 = _ from r])
      go_ret
      exact ⟨ret_bool (by rw [O.out, HN.out]; rfl), below_step (below_step E.out f.out) G⟩
     ·have HT : Hid ((p.take (k + 1)).all opOkD = true) := all_step d D r;have f : Hid _ := n;clear D d n;go_wp2_with (go_at_call 134; refine (specOpOk_any _ _ _ _ _).mono ?_; rintro e L ⟨rfl, G⟩; rw [show opB z.1 z.2.1 z.2.2.1 z.2.2.2 = _ from r])
      go_roundw
      case rel => exact ⟨k + 1, by omega, by go_num, HT.out, below_step f.out G⟩
      case measure => simp [intOf]; omega
    ·have N : k = p.length := by omega
     subst N;rw [List.take_length] at d;have S : A = true := by rw [← U.out]; exact d
     subst S;have f : Hid (Bl w wr) := below_step E.out n;have v : Hid _ := row_keep n HX.out;clear d n y hk U;have q : Hid (coreB (c, p, j, 2, u, t) = clearB u) := by unfold Hid; rw [O.out, Bool.true_and]; unfold restC; exact if_neg (show ¬ ((2 : Int) = 1) by decide)
     go_wp2_with (go_at_call 58; refine (KL.out _).mono ?_; rintro e L ⟨rfl, G⟩)
     go_ret
     exact ⟨ret_bool q.out.symm, below_step f.out G⟩
theorem own_nothing (w : World) (S : Foot) : intsR.own w S [sL none 0 0] [] := ⟨_, [], fun _ => False, rfl, World.ownsRow_nil _ _ _ _, fun g hg => by simp [Value.ownBlock] at hg, fun _ h => h.elim, rfl⟩
theorem l6Empty_any (w : World) : Calls Tryz.prog 170 #[] w fun e w' => ∃ av cv, e = .returned (.agg #[nI (-1), nI 0, sL av 0 cv]) ∧ MadeR wayR w w' [nI (-1), nI 0, sL av 0 cv] emptyW := by
 go_enter Tryz.func170, Tryz.ntmps170;go_wp2;refine bodyPost_ret (v := .agg #[nI (-1), nI 0, sL none 0 0]) (by simp [results, Tryz.results170, go_sem]) rfl ⟨_, _, rfl, own_way (by constructor <;> decide) (by constructor <;> decide) (own_nothing _ _), box_below w _⟩
section
variable {α : Type}
end
section
variable {α : Type}
end
open Go.ChangeShapes Go.WideShapes Go.ChangeAt Go.RowKit Go.Shelf
theorem cs1 {w : World} {g b o k : Nat} {u v : Value} (hne : ¬ (b = g)) (h : w.cell? ⟨b, k, none⟩ = some u) : (w.setCell ⟨g, o, none⟩ v).cell? ⟨b, k, none⟩ = some u :=
 (World.cell?_of_block (w := w) (a := ⟨b, k, none⟩) (heap_setCell_other w ⟨g, o, none⟩ b v hne)).trans h
theorem cs3 {w : World} {g b k : Nat} {u x y z : Value} (hne : ¬ (b = g)) (h : w.cell? ⟨b, k, none⟩ = some u) : (((w.setCell ⟨g, 0, none⟩ x).setCell ⟨g, 1, none⟩ y).setCell ⟨g, 2, none⟩ z).cell? ⟨b, k, none⟩ = some u := cs1 hne (cs1 hne (cs1 hne h))
theorem l6Way_in (b : Option Addr) (c : CacheD) (cap cp b0 o0 bj oj cj fi cpw : Nat) (ad : Option Addr) (line : Int) (ul us : Int) (ud : List Int) (w : World) (hokc : OkC isL treeB c) (h1 : SlRd waysR w (some ⟨b0, o0, none⟩) c.1) (hat : atC c line = some fi)
    (k2 : w.cell? ⟨b0, o0 + setNo c line, none⟩ = some (sL (some ⟨bj, oj, none⟩) (rowFor c line).length cj)) (k4 : w.cell? ⟨bj, oj + fi * 3, none⟩ = some (nI ul)) (k5 : w.cell? ⟨bj, oj + fi * 3 + 1, none⟩ = some (nI us)) (k6 : w.cell? ⟨bj, oj + fi * 3 + 2, none⟩ = some (sL ad ud.length cpw)) :
    Calls Tryz.prog 108 #[.agg #[sL (some ⟨b0, o0, none⟩) c.1.length cap, sL b c.2.length cp], nI line] w fun e w' => e = .returned (.agg #[nI ul, nI us, sL ad ud.length cpw]) ∧ Below w.heap.size w w' := by
 obtain ⟨z, u, G, C⟩ := at_some hat;have i : Hid (∀ W, Below w.heap.size w W → Calls Tryz.prog 136 #[.agg #[sL (some ⟨b0, o0, none⟩) c.1.length cap, sL b c.2.length cp], nI line] W fun e w' => e = .returned (nI (fi : Int)) ∧ Below W.heap.size W w') := fun W hbw => by
  have := specAt_any (some ⟨b0, o0, none⟩) b c cap cp line W hokc (slrd_keep h1 fun k hk => hbw.block k hk);rwa [hat] at this
 obtain ⟨N, m, s, y, f, D⟩ := ok_row hokc line;have A := (List.getElem?_eq_some_iff.1 G).1;have q : (fi : Int) < ((rowFor c line).length : Int) := by omega
 have j : ((setNo c line : Nat) : Int) < (c.1.length : Int) := by omega
 have d : line % (c.1.length : Int) = ((setNo c line : Nat) : Int) := f.symm;have R : (c.1.length : Int) ≠ 0 := by omega
 have U : ((c.1.length : Int) == 0) = false := beq_false_of_ne R;have l : ¬ (c.1.length = 0) := by omega
 have S : ¬ (c.1 = []) := fun e => by rw [e] at l; exact l rfl
 have E : Int.tmod line (c.1.length : Int) = ((setNo c line : Nat) : Int) := by rw [Int.tmod_eq_emod_of_nonneg z, d]
 have F : ¬ ((fi : Int) < 0) := by omega
 have r : Hid (∀ W, Below w.heap.size w W → W.cell? ⟨b0, o0 + setNo c line, none⟩ = some (sL (some ⟨bj, oj, none⟩) (rowFor c line).length cj) ∧ W.cell? ⟨bj, oj + fi * 3, none⟩ = some (nI ul) ∧ W.cell? ⟨bj, oj + fi * 3 + 1, none⟩ = some (nI us) ∧ W.cell? ⟨bj, oj + fi * 3 + 2, none⟩ = some (sL ad ud.length cpw)) :=
  fun W hbw => ⟨cell_keep hbw k2 (cell_lt k2), cell_keep hbw k4 (cell_lt k4), cell_keep hbw k5 (cell_lt k5), cell_keep hbw k6 (cell_lt k6)⟩
 have L := cell_lt k2;have aA := cell_lt k4;clear h1 hokc m s y f G C k2 k4 k5 k6 N hat;generalize setNo c line = sn at r D j d E;generalize (rowFor c line).length = rn at r q A;have X := heap_on (.cells #[nI 0, nI 0, sL none 0 0] 74) (heap_at w (.cells #[sL (some ⟨b0, o0, none⟩) c.1.length cap, sL b c.2.length cp] 95));have Y := heap_at (w.alloc (.cells #[sL (some ⟨b0, o0, none⟩) c.1.length cap, sL b c.2.length cp] 95)) (.cells #[nI 0, nI 0, sL none 0 0] 74);rw [alloc_len] at Y;have B := below_step (box_below w (.cells #[sL (some ⟨b0, o0, none⟩) c.1.length cap, sL b c.2.length cp] 95)) (box_below _ (.cells #[nI 0, nI 0, sL none 0 0] 74));go_enter Tryz.func108, Tryz.ntmps108;go_wp2_with fail
 generalize (w.alloc (.cells #[sL (some ⟨b0, o0, none⟩) c.1.length cap, sL b c.2.length cp] 95)).alloc (.cells #[nI 0, nI 0, sL none 0 0] 74) = W0 at X Y B ⊢;refine (i.out _ B).mono ?_;rintro e J ⟨rfl, n⟩;replace B := below_step B n;replace X := row_keep n X;replace Y := row_keep n Y;clear n i;obtain ⟨H, x1⟩ := cells_two X;obtain ⟨y0, y1, y2⟩ := cells_3 Y;obtain ⟨f0, f1, f2⟩ := cells_froz Y;obtain ⟨p0, T, Z, O⟩ := r.out _ B;have p : ¬ (w.heap.size = w.heap.size + 1) := by omega
 have o : ¬ (b0 = w.heap.size + 1) := by omega
 have g : ¬ (bj = w.heap.size + 1) := by omega
 have M : Hid _ := Y;clear X Y;go_wp2_with fail
 go_region_held3 (fun wx => wx.cell? ⟨w.heap.size, 0, none⟩ = some (sL (some ⟨b0, o0, none⟩) c.1.length cap) ∧ wx.cell? ⟨b0, o0 + sn, none⟩ = some (sL (some ⟨bj, oj, none⟩) rn cj) ∧ wx.cell? ⟨bj, oj + fi * 3, none⟩ = some (nI ul) ∧ wx.cell? ⟨bj, oj + fi * 3 + 1, none⟩ = some (nI us) ∧ wx.cell? ⟨bj, oj + fi * 3 + 2, none⟩ = some (sL ad ud.length cpw)) (first | (go_keep; done) | (exact ⟨cs3 p H, cs3 o p0, cs3 g T, cs3 g Z, cs3 g O⟩)) (fail)
 all_goals
  go_wp2;obtain ⟨I, K, V⟩ := cells_3 (put3 (w := J) (a := nI ul) (b := nI us) (c := sL ad ud.length cpw) M.out);refine bodyPost_ret (v := .agg #[nI ul, nI us, sL ad ud.length cpw]) (by simp [results, Tryz.results108, go_sem, I, K, V]) rfl ⟨rfl, (below_setC (below_setC (below_setC B (by omega)) (by omega)) (by omega)).drew⟩
open Go.RowKit
section
variable {P : Program} {C : World → Prop} {l : List Oper} {o : Oper}
end
attribute [local go_sem] Oper.semAt_some
section
variable {W0 wx : World} {b0 o0 o1 : Nat} {u v : Value}
end
theorem sumbk_le {α : Type} {M : Mk α} {K : Nat} : ∀ {xs : List α}, (∀ x ∈ xs, M.bk x ≤ K) → sumbk M xs ≤ xs.length * K
 | [], _ => by simp [sumbk]
 | x :: xs, h => by
  have h1 := sumbk_le (xs := xs) (fun y hy => h y (List.mem_cons_of_mem _ hy));have h2 := h x (List.mem_cons_self ..);have a : sumbk M (x :: xs) = M.bk x + sumbk M xs := by simp [sumbk]
  rw [a, List.length_cons, Nat.add_mul];omega
theorem implCacheOk_u (cs : List Value) (c : CacheD) (w : World) (h : cacheR.rd w cs c) :
    Calls Tryz.prog 231 #[aggV cs] w fun e w' => e = .returned (.bool (okB isL treeB c)) ∧ Bl w w' := by
 obtain ⟨a, d, b, g, rfl, l, m, k, j, f, i⟩ := cache_rd h;exact implCacheOk_any a b c d g w f i (Nat.le_trans l m) (Nat.le_trans k j) (rows_len f)
theorem implFind_u (cs : List Value) (c : CacheD) (k : Int) (w : World) (hok : OkC isL treeB c) (h : cacheR.rd w cs c) :
    Calls Tryz.prog 260 #[aggV cs, nI k] w fun e w' => e = .returned (.tuple #[.agg #[nI (findP c k).1, nI (findP c k).2.1], .bool (findP c k).2.2]) ∧ Bl w w' := by
 obtain ⟨a, d, b, f, rfl, l1, l2, m1, m2, g, r2⟩ := cache_rd h;exact implFind_any a b c d f k w hok g
theorem l6Empty_u (w : World) : Calls Tryz.prog 170 #[] w fun e a => ∃ ds, e = .returned (aggV ds) ∧ MadeR wayR w a ds emptyW := by
 refine (l6Empty_any w).mono ?_;rintro e a ⟨av, cv, rfl, b⟩;exact ⟨_, rfl, b⟩
theorem specAt_u (cs : List Value) (c : CacheD) (k : Int) (w : World) (hok : OkC isL treeB c) (h : cacheR.rd w cs c) :
    Calls Tryz.prog 136 #[aggV cs, nI k] w fun e w' => e = .returned (nI (idxI (atC c k))) ∧ Bl w w' := by
 obtain ⟨a, d, b, f, rfl, l1, l2, m1, m2, g, r2⟩ := cache_rd h;exact specAt_any a b c d f k w hok g
end Go.Proofs.YtdamokokcdcedaaGreatDoor
