import Derived.Test.YtdamokokcdcedaaGreatDoorG00Box
import Derived.Test.YtdamokokcdcedaaGreatDoorG32
import Derived.Laws.IdiomCopy
import Derived.Laws.Slices
namespace Go.Proofs.YtdamokokcdcedaaGreatDoor
set_option maxHeartbeats 8000000
open Go.ChangeShapes Go.WideShapes Go.ChangeAt Go.RowKit
set_option linter.unusedVariables false
theorem specEntryOk_any (o s k f l m : Int) (b : Bool) (d : List Int) (a : Option Addr) (cap : Nat) (w : World) (h : SlRd intR w a d) :
    Calls Tryz.prog 129 #[.agg #[nI o, nI s, .bool b, nI k, nI f, nI l, nI m, sL a d.length cap]] w fun e g => e = .returned (.bool (entB (o, s, b, k, f, l, m, d))) ∧ Bl w g := by
 have i : Hid _ := box_below w;have R : Hid _ := fun (W : World) (hb : Bl w W) => specLineOk_any a d cap W (reads_of (slrd_next h hb));clear h;rw [eb];cases j : betw o (-1) 3
 ·have c : Hid ((whoB o s && (if b then busyB k f l m d else restB k f l m d)) = false) := by unfold Hid; simp [whoB, j]
  rw [c.out];go_enter Tryz.func129, Tryz.ntmps129;go_wp2_with ((go_at_call 126; refine (l1In_any _ _ _ _).mono ?_; rintro e g ⟨rfl, rfl⟩))
  go_ret
  exact ⟨rfl, i.out _⟩
 ·cases n : betw s 0 15
  ·have c : Hid ((whoB o s && (if b then busyB k f l m d else restB k f l m d)) = false) := by unfold Hid; simp [whoB, j, n]
   rw [c.out];go_enter Tryz.func129, Tryz.ntmps129;go_wp2_with ((go_at_call 126; refine (l1In_any _ _ _ _).mono ?_; rintro e g ⟨rfl, rfl⟩))
   go_ret
   exact ⟨rfl, i.out _⟩
  ·by_cases p : 0 ≤ o
   ·by_cases h4 : s = 0
    ·subst h4;cases b
     ·by_cases h5 : k = 0
      ·subst h5;by_cases h6 : f = 0
       ·subst h6;by_cases h7 : l = 0
        ·subst h7;by_cases h8 : m = 0
         ·subst h8;by_cases h9 : d.length = 0
          ·have B : d = [] := List.eq_nil_of_length_eq_zero h9;subst B;have c : Hid ((whoB o 0 && (if false then busyB 0 0 0 0 ([] : List Int) else restB 0 0 0 0 ([] : List Int))) = true) := by unfold Hid; simp [whoB, restB, j, n, p]
           rw [c.out];go_enter Tryz.func129, Tryz.ntmps129;go_wp2_with ((go_at_call 126; refine (l1In_any _ _ _ _).mono ?_; rintro e g ⟨rfl, rfl⟩))
           go_ret
           exact ⟨rfl, i.out _⟩
          ·have F : ¬ (d = []) := fun e => h9 (by rw [e]; rfl);have E : ¬ ((d.length : Int) = 0) := by omega
           have H : ((d.length : Int) == 0) = false := beq_false_of_ne E;have c : Hid ((whoB o 0 && (if false then busyB 0 0 0 0 d else restB 0 0 0 0 d)) = false) := by unfold Hid; simp [whoB, restB, j, n, p, h9]
           rw [c.out];go_enter Tryz.func129, Tryz.ntmps129;go_wp2_with ((go_at_call 126; refine (l1In_any _ _ _ _).mono ?_; rintro e g ⟨rfl, rfl⟩))
           go_ret
           exact ⟨rfl, i.out _⟩
         ·have LA : (m == 0) = false := beq_false_of_ne h8;have c : Hid ((whoB o 0 && (if false then busyB 0 0 0 m d else restB 0 0 0 m d)) = false) := by unfold Hid; simp [whoB, restB, j, n, p, h8]
          rw [c.out];go_enter Tryz.func129, Tryz.ntmps129;go_wp2_with ((go_at_call 126; refine (l1In_any _ _ _ _).mono ?_; rintro e g ⟨rfl, rfl⟩))
          go_ret
          exact ⟨rfl, i.out _⟩
        ·have OA : (l == 0) = false := beq_false_of_ne h7;have c : Hid ((whoB o 0 && (if false then busyB 0 0 l m d else restB 0 0 l m d)) = false) := by unfold Hid; simp [whoB, restB, j, n, p, h7]
         rw [c.out];go_enter Tryz.func129, Tryz.ntmps129;go_wp2_with ((go_at_call 126; refine (l1In_any _ _ _ _).mono ?_; rintro e g ⟨rfl, rfl⟩))
         go_ret
         exact ⟨rfl, i.out _⟩
       ·have MA : (f == 0) = false := beq_false_of_ne h6;have c : Hid ((whoB o 0 && (if false then busyB 0 f l m d else restB 0 f l m d)) = false) := by unfold Hid; simp [whoB, restB, j, n, p, h6]
        rw [c.out];go_enter Tryz.func129, Tryz.ntmps129;go_wp2_with ((go_at_call 126; refine (l1In_any _ _ _ _).mono ?_; rintro e g ⟨rfl, rfl⟩))
        go_ret
        exact ⟨rfl, i.out _⟩
      ·have NA : (k == 0) = false := beq_false_of_ne h5;have c : Hid ((whoB o 0 && (if false then busyB k f l m d else restB k f l m d)) = false) := by unfold Hid; simp [whoB, restB, j, n, p, h5]
       rw [c.out];go_enter Tryz.func129, Tryz.ntmps129;go_wp2_with ((go_at_call 126; refine (l1In_any _ _ _ _).mono ?_; rintro e g ⟨rfl, rfl⟩))
       go_ret
       exact ⟨rfl, i.out _⟩
     ·cases r : betw k 1 4
      ·have c : Hid ((whoB o 0 && (if true then busyB k f l m d else restB k f l m d)) = false) := by unfold Hid; simp [whoB, busyB, j, n, p, r]
       rw [c.out];go_enter Tryz.func129, Tryz.ntmps129;go_wp2_with ((go_at_call 126; refine (l1In_any _ _ _ _).mono ?_; rintro e g ⟨rfl, rfl⟩))
       go_ret
       exact ⟨rfl, i.out _⟩
      ·cases y : betw l 0 4
       ·have c : Hid ((whoB o 0 && (if true then busyB k f l m d else restB k f l m d)) = false) := by unfold Hid; simp [whoB, busyB, j, n, p, r, y]
        rw [c.out];go_enter Tryz.func129, Tryz.ntmps129;go_wp2_with ((go_at_call 126; refine (l1In_any _ _ _ _).mono ?_; rintro e g ⟨rfl, rfl⟩))
        go_ret
        exact ⟨rfl, i.out _⟩
       ·by_cases A : k ≤ 2
        ·cases N : betw f 0 3
         ·have c : Hid ((whoB o 0 && (if true then busyB k f l m d else restB k f l m d)) = false) := by unfold Hid; simp [whoB, busyB, fromB, j, n, p, r, y, A, N]
          rw [c.out];go_enter Tryz.func129, Tryz.ntmps129;go_wp2_with ((go_at_call 126; refine (l1In_any _ _ _ _).mono ?_; rintro e g ⟨rfl, rfl⟩))
          go_ret
          exact ⟨rfl, i.out _⟩
         ·have O : ¬ k = 4 := by omega
          have vA : (k == 4) = false := beq_false_of_ne O;by_cases X : m = 0
          ·subst X;by_cases V : d.length = 0
           ·have B : d = [] := List.eq_nil_of_length_eq_zero V;subst B;have c : Hid ((whoB o 0 && (if true then busyB k f l 0 ([] : List Int) else restB k f l 0 ([] : List Int))) = true) := by unfold Hid; simp [whoB, busyB, fromB, loadB, j, n, p, r, y, A, N, O]
            rw [c.out];go_enter Tryz.func129, Tryz.ntmps129;go_wp2_with ((go_at_call 126; refine (l1In_any _ _ _ _).mono ?_; rintro e g ⟨rfl, rfl⟩))
            go_ret
            exact ⟨rfl, i.out _⟩
           ·have F : ¬ (d = []) := fun e => V (by rw [e]; rfl);have E : ¬ ((d.length : Int) = 0) := by omega
            have H : ((d.length : Int) == 0) = false := beq_false_of_ne E;have c : Hid ((whoB o 0 && (if true then busyB k f l 0 d else restB k f l 0 d)) = false) := by unfold Hid; simp [whoB, busyB, fromB, loadB, j, n, p, r, y, A, N, O, V]
            rw [c.out];go_enter Tryz.func129, Tryz.ntmps129;go_wp2_with ((go_at_call 126; refine (l1In_any _ _ _ _).mono ?_; rintro e g ⟨rfl, rfl⟩))
            go_ret
            exact ⟨rfl, i.out _⟩
          ·have KA : (m == 0) = false := beq_false_of_ne X;have c : Hid ((whoB o 0 && (if true then busyB k f l m d else restB k f l m d)) = false) := by unfold Hid; simp [whoB, busyB, fromB, loadB, j, n, p, r, y, A, N, O, X]
           rw [c.out];go_enter Tryz.func129, Tryz.ntmps129;go_wp2_with ((go_at_call 126; refine (l1In_any _ _ _ _).mono ?_; rintro e g ⟨rfl, rfl⟩))
           go_ret
           exact ⟨rfl, i.out _⟩
        ·by_cases S : f = 5
         ·subst S;by_cases D : l = 0
          ·subst D;have c : Hid ((whoB o 0 && (if true then busyB k 5 0 m d else restB k 5 0 m d)) = false) := by unfold Hid; simp [whoB, busyB, fromB, j, n, p, r, y, A]
           rw [c.out];go_enter Tryz.func129, Tryz.ntmps129;go_wp2_with ((go_at_call 126; refine (l1In_any _ _ _ _).mono ?_; rintro e g ⟨rfl, rfl⟩))
           go_ret
           exact ⟨rfl, i.out _⟩
          ·have AA : (l == 0) = false := beq_false_of_ne D;by_cases I : k = 4
           ·subst I;cases gA : betw m 0 3
            ·have c : Hid ((whoB o 0 && (if true then busyB 4 5 l m d else restB 4 5 l m d)) = false) := by unfold Hid; simp [whoB, busyB, fromB, loadB, j, n, p, r, y, A, D, gA]
             rw [c.out];go_enter Tryz.func129, Tryz.ntmps129;go_wp2_with ((go_at_call 126; refine (l1In_any _ _ _ _).mono ?_; rintro e g ⟨rfl, rfl⟩))
             go_ret
             exact ⟨rfl, i.out _⟩
            ·cases M : isL d
             ·have c : Hid ((whoB o 0 && (if true then busyB 4 5 l m d else restB 4 5 l m d)) = false) := by unfold Hid; simp [whoB, busyB, fromB, loadB, j, n, p, r, y, A, D, gA, M]
              rw [c.out];rw [M] at R;go_enter Tryz.func129, Tryz.ntmps129;go_wp2_with (first | (go_at_call 126; refine (l1In_any _ _ _ _).mono ?_; rintro e g ⟨rfl, rfl⟩) | (go_at_call 131; refine (R.out _ (i.out _)).mono ?_; rintro e g ⟨rfl, rfl⟩))
              go_ret
              exact ⟨rfl, i.out _⟩
             ·have c : Hid ((whoB o 0 && (if true then busyB 4 5 l m d else restB 4 5 l m d)) = true) := by unfold Hid; simp [whoB, busyB, fromB, loadB, j, n, p, r, y, A, D, gA, M]
              rw [c.out];rw [M] at R;go_enter Tryz.func129, Tryz.ntmps129;go_wp2_with (first | (go_at_call 126; refine (l1In_any _ _ _ _).mono ?_; rintro e g ⟨rfl, rfl⟩) | (go_at_call 131; refine (R.out _ (i.out _)).mono ?_; rintro e g ⟨rfl, rfl⟩))
              go_ret
              exact ⟨rfl, i.out _⟩
           ·have HA : (k == 4) = false := beq_false_of_ne I;by_cases Y : m = 0
            ·subst Y;by_cases eA : d.length = 0
             ·have B : d = [] := List.eq_nil_of_length_eq_zero eA;subst B;have c : Hid ((whoB o 0 && (if true then busyB k 5 l 0 ([] : List Int) else restB k 5 l 0 ([] : List Int))) = true) := by unfold Hid; simp [whoB, busyB, fromB, loadB, j, n, p, r, y, A, D, I]
              rw [c.out];go_enter Tryz.func129, Tryz.ntmps129;go_wp2_with ((go_at_call 126; refine (l1In_any _ _ _ _).mono ?_; rintro e g ⟨rfl, rfl⟩))
              go_ret
              exact ⟨rfl, i.out _⟩
             ·have F : ¬ (d = []) := fun e => eA (by rw [e]; rfl);have E : ¬ ((d.length : Int) = 0) := by omega
              have H : ((d.length : Int) == 0) = false := beq_false_of_ne E;have c : Hid ((whoB o 0 && (if true then busyB k 5 l 0 d else restB k 5 l 0 d)) = false) := by unfold Hid; simp [whoB, busyB, fromB, loadB, j, n, p, r, y, A, D, I, eA]
              rw [c.out];go_enter Tryz.func129, Tryz.ntmps129;go_wp2_with ((go_at_call 126; refine (l1In_any _ _ _ _).mono ?_; rintro e g ⟨rfl, rfl⟩))
              go_ret
              exact ⟨rfl, i.out _⟩
            ·have JA : (m == 0) = false := beq_false_of_ne Y;have c : Hid ((whoB o 0 && (if true then busyB k 5 l m d else restB k 5 l m d)) = false) := by unfold Hid; simp [whoB, busyB, fromB, loadB, j, n, p, r, y, A, D, I, Y]
             rw [c.out];go_enter Tryz.func129, Tryz.ntmps129;go_wp2_with ((go_at_call 126; refine (l1In_any _ _ _ _).mono ?_; rintro e g ⟨rfl, rfl⟩))
             go_ret
             exact ⟨rfl, i.out _⟩
         ·have CA : (f == 5) = false := beq_false_of_ne S;have c : Hid ((whoB o 0 && (if true then busyB k f l m d else restB k f l m d)) = false) := by unfold Hid; simp [whoB, busyB, fromB, j, n, p, r, y, A, S]
          rw [c.out];go_enter Tryz.func129, Tryz.ntmps129;go_wp2_with ((go_at_call 126; refine (l1In_any _ _ _ _).mono ?_; rintro e g ⟨rfl, rfl⟩))
          go_ret
          exact ⟨rfl, i.out _⟩
    ·have RA : (s == 0) = false := beq_false_of_ne h4;have c : Hid ((whoB o s && (if b then busyB k f l m d else restB k f l m d)) = false) := by unfold Hid; simp [whoB, j, n, p, h4]
     rw [c.out];go_enter Tryz.func129, Tryz.ntmps129;go_wp2_with ((go_at_call 126; refine (l1In_any _ _ _ _).mono ?_; rintro e g ⟨rfl, rfl⟩))
     go_ret
     exact ⟨rfl, i.out _⟩
   ·cases b
    ·by_cases Z : k = 0
     ·subst Z;by_cases kA : f = 0
      ·subst kA;by_cases aA : l = 0
       ·subst aA;by_cases iA : m = 0
        ·subst iA;by_cases fA : d.length = 0
         ·have B : d = [] := List.eq_nil_of_length_eq_zero fA;subst B;have c : Hid ((whoB o s && (if false then busyB 0 0 0 0 ([] : List Int) else restB 0 0 0 0 ([] : List Int))) = true) := by unfold Hid; simp [whoB, restB, j, n, p]
          rw [c.out];go_enter Tryz.func129, Tryz.ntmps129;go_wp2_with ((go_at_call 126; refine (l1In_any _ _ _ _).mono ?_; rintro e g ⟨rfl, rfl⟩))
          go_ret
          exact ⟨rfl, i.out _⟩
         ·have F : ¬ (d = []) := fun e => fA (by rw [e]; rfl);have E : ¬ ((d.length : Int) = 0) := by omega
          have H : ((d.length : Int) == 0) = false := beq_false_of_ne E;have c : Hid ((whoB o s && (if false then busyB 0 0 0 0 d else restB 0 0 0 0 d)) = false) := by unfold Hid; simp [whoB, restB, j, n, p, fA]
          rw [c.out];go_enter Tryz.func129, Tryz.ntmps129;go_wp2_with ((go_at_call 126; refine (l1In_any _ _ _ _).mono ?_; rintro e g ⟨rfl, rfl⟩))
          go_ret
          exact ⟨rfl, i.out _⟩
        ·have yA : (m == 0) = false := beq_false_of_ne iA;have c : Hid ((whoB o s && (if false then busyB 0 0 0 m d else restB 0 0 0 m d)) = false) := by unfold Hid; simp [whoB, restB, j, n, p, iA]
         rw [c.out];go_enter Tryz.func129, Tryz.ntmps129;go_wp2_with ((go_at_call 126; refine (l1In_any _ _ _ _).mono ?_; rintro e g ⟨rfl, rfl⟩))
         go_ret
         exact ⟨rfl, i.out _⟩
       ·have BA : (l == 0) = false := beq_false_of_ne aA;have c : Hid ((whoB o s && (if false then busyB 0 0 l m d else restB 0 0 l m d)) = false) := by unfold Hid; simp [whoB, restB, j, n, p, aA]
        rw [c.out];go_enter Tryz.func129, Tryz.ntmps129;go_wp2_with ((go_at_call 126; refine (l1In_any _ _ _ _).mono ?_; rintro e g ⟨rfl, rfl⟩))
        go_ret
        exact ⟨rfl, i.out _⟩
      ·have EA : (f == 0) = false := beq_false_of_ne kA;have c : Hid ((whoB o s && (if false then busyB 0 f l m d else restB 0 f l m d)) = false) := by unfold Hid; simp [whoB, restB, j, n, p, kA]
       rw [c.out];go_enter Tryz.func129, Tryz.ntmps129;go_wp2_with ((go_at_call 126; refine (l1In_any _ _ _ _).mono ?_; rintro e g ⟨rfl, rfl⟩))
       go_ret
       exact ⟨rfl, i.out _⟩
     ·have GA : (k == 0) = false := beq_false_of_ne Z;have c : Hid ((whoB o s && (if false then busyB k f l m d else restB k f l m d)) = false) := by unfold Hid; simp [whoB, restB, j, n, p, Z]
      rw [c.out];go_enter Tryz.func129, Tryz.ntmps129;go_wp2_with ((go_at_call 126; refine (l1In_any _ _ _ _).mono ?_; rintro e g ⟨rfl, rfl⟩))
      go_ret
      exact ⟨rfl, i.out _⟩
    ·cases q : betw k 1 4
     ·have c : Hid ((whoB o s && (if true then busyB k f l m d else restB k f l m d)) = false) := by unfold Hid; simp [whoB, busyB, j, n, p, q]
      rw [c.out];go_enter Tryz.func129, Tryz.ntmps129;go_wp2_with ((go_at_call 126; refine (l1In_any _ _ _ _).mono ?_; rintro e g ⟨rfl, rfl⟩))
      go_ret
      exact ⟨rfl, i.out _⟩
     ·cases v : betw l 0 4
      ·have c : Hid ((whoB o s && (if true then busyB k f l m d else restB k f l m d)) = false) := by unfold Hid; simp [whoB, busyB, j, n, p, q, v]
       rw [c.out];go_enter Tryz.func129, Tryz.ntmps129;go_wp2_with ((go_at_call 126; refine (l1In_any _ _ _ _).mono ?_; rintro e g ⟨rfl, rfl⟩))
       go_ret
       exact ⟨rfl, i.out _⟩
      ·by_cases z : k ≤ 2
       ·cases K : betw f 0 3
        ·have c : Hid ((whoB o s && (if true then busyB k f l m d else restB k f l m d)) = false) := by unfold Hid; simp [whoB, busyB, fromB, j, n, p, q, v, z, K]
         rw [c.out];go_enter Tryz.func129, Tryz.ntmps129;go_wp2_with ((go_at_call 126; refine (l1In_any _ _ _ _).mono ?_; rintro e g ⟨rfl, rfl⟩))
         go_ret
         exact ⟨rfl, i.out _⟩
        ·have L : ¬ k = 4 := by omega
         have zA : (k == 4) = false := beq_false_of_ne L;by_cases jA : m = 0
         ·subst jA;by_cases T : d.length = 0
          ·have B : d = [] := List.eq_nil_of_length_eq_zero T;subst B;have c : Hid ((whoB o s && (if true then busyB k f l 0 ([] : List Int) else restB k f l 0 ([] : List Int))) = true) := by unfold Hid; simp [whoB, busyB, fromB, loadB, j, n, p, q, v, z, K, L]
           rw [c.out];go_enter Tryz.func129, Tryz.ntmps129;go_wp2_with ((go_at_call 126; refine (l1In_any _ _ _ _).mono ?_; rintro e g ⟨rfl, rfl⟩))
           go_ret
           exact ⟨rfl, i.out _⟩
          ·have F : ¬ (d = []) := fun e => T (by rw [e]; rfl);have E : ¬ ((d.length : Int) = 0) := by omega
           have H : ((d.length : Int) == 0) = false := beq_false_of_ne E;have c : Hid ((whoB o s && (if true then busyB k f l 0 d else restB k f l 0 d)) = false) := by unfold Hid; simp [whoB, busyB, fromB, loadB, j, n, p, q, v, z, K, L, T]
           rw [c.out];go_enter Tryz.func129, Tryz.ntmps129;go_wp2_with ((go_at_call 126; refine (l1In_any _ _ _ _).mono ?_; rintro e g ⟨rfl, rfl⟩))
           go_ret
           exact ⟨rfl, i.out _⟩
         ·have IA : (m == 0) = false := beq_false_of_ne jA;have c : Hid ((whoB o s && (if true then busyB k f l m d else restB k f l m d)) = false) := by unfold Hid; simp [whoB, busyB, fromB, loadB, j, n, p, q, v, z, K, L, jA]
          rw [c.out];go_enter Tryz.func129, Tryz.ntmps129;go_wp2_with ((go_at_call 126; refine (l1In_any _ _ _ _).mono ?_; rintro e g ⟨rfl, rfl⟩))
          go_ret
          exact ⟨rfl, i.out _⟩
       ·by_cases cA : f = 5
        ·subst cA;by_cases C : l = 0
         ·subst C;have c : Hid ((whoB o s && (if true then busyB k 5 0 m d else restB k 5 0 m d)) = false) := by unfold Hid; simp [whoB, busyB, fromB, j, n, p, q, v, z]
          rw [c.out];go_enter Tryz.func129, Tryz.ntmps129;go_wp2_with ((go_at_call 126; refine (l1In_any _ _ _ _).mono ?_; rintro e g ⟨rfl, rfl⟩))
          go_ret
          exact ⟨rfl, i.out _⟩
         ·have sA : (l == 0) = false := beq_false_of_ne C;by_cases G : k = 4
          ·subst G;cases bA : betw m 0 3
           ·have c : Hid ((whoB o s && (if true then busyB 4 5 l m d else restB 4 5 l m d)) = false) := by unfold Hid; simp [whoB, busyB, fromB, loadB, j, n, p, q, v, z, C, bA]
            rw [c.out];go_enter Tryz.func129, Tryz.ntmps129;go_wp2_with ((go_at_call 126; refine (l1In_any _ _ _ _).mono ?_; rintro e g ⟨rfl, rfl⟩))
            go_ret
            exact ⟨rfl, i.out _⟩
           ·cases J : isL d
            ·have c : Hid ((whoB o s && (if true then busyB 4 5 l m d else restB 4 5 l m d)) = false) := by unfold Hid; simp [whoB, busyB, fromB, loadB, j, n, p, q, v, z, C, bA, J]
             rw [c.out];rw [J] at R;go_enter Tryz.func129, Tryz.ntmps129;go_wp2_with (first | (go_at_call 126; refine (l1In_any _ _ _ _).mono ?_; rintro e g ⟨rfl, rfl⟩) | (go_at_call 131; refine (R.out _ (i.out _)).mono ?_; rintro e g ⟨rfl, rfl⟩))
             go_ret
             exact ⟨rfl, i.out _⟩
            ·have c : Hid ((whoB o s && (if true then busyB 4 5 l m d else restB 4 5 l m d)) = true) := by unfold Hid; simp [whoB, busyB, fromB, loadB, j, n, p, q, v, z, C, bA, J]
             rw [c.out];rw [J] at R;go_enter Tryz.func129, Tryz.ntmps129;go_wp2_with (first | (go_at_call 126; refine (l1In_any _ _ _ _).mono ?_; rintro e g ⟨rfl, rfl⟩) | (go_at_call 131; refine (R.out _ (i.out _)).mono ?_; rintro e g ⟨rfl, rfl⟩))
             go_ret
             exact ⟨rfl, i.out _⟩
          ·have DA : (k == 4) = false := beq_false_of_ne G;by_cases dA : m = 0
           ·subst dA;by_cases U : d.length = 0
            ·have B : d = [] := List.eq_nil_of_length_eq_zero U;subst B;have c : Hid ((whoB o s && (if true then busyB k 5 l 0 ([] : List Int) else restB k 5 l 0 ([] : List Int))) = true) := by unfold Hid; simp [whoB, busyB, fromB, loadB, j, n, p, q, v, z, C, G]
             rw [c.out];go_enter Tryz.func129, Tryz.ntmps129;go_wp2_with ((go_at_call 126; refine (l1In_any _ _ _ _).mono ?_; rintro e g ⟨rfl, rfl⟩))
             go_ret
             exact ⟨rfl, i.out _⟩
            ·have F : ¬ (d = []) := fun e => U (by rw [e]; rfl);have E : ¬ ((d.length : Int) = 0) := by omega
             have H : ((d.length : Int) == 0) = false := beq_false_of_ne E;have c : Hid ((whoB o s && (if true then busyB k 5 l 0 d else restB k 5 l 0 d)) = false) := by unfold Hid; simp [whoB, busyB, fromB, loadB, j, n, p, q, v, z, C, G, U]
             rw [c.out];go_enter Tryz.func129, Tryz.ntmps129;go_wp2_with ((go_at_call 126; refine (l1In_any _ _ _ _).mono ?_; rintro e g ⟨rfl, rfl⟩))
             go_ret
             exact ⟨rfl, i.out _⟩
           ·have rA : (m == 0) = false := beq_false_of_ne dA;have c : Hid ((whoB o s && (if true then busyB k 5 l m d else restB k 5 l m d)) = false) := by unfold Hid; simp [whoB, busyB, fromB, loadB, j, n, p, q, v, z, C, G, dA]
            rw [c.out];go_enter Tryz.func129, Tryz.ntmps129;go_wp2_with ((go_at_call 126; refine (l1In_any _ _ _ _).mono ?_; rintro e g ⟨rfl, rfl⟩))
            go_ret
            exact ⟨rfl, i.out _⟩
        ·have FA : (f == 5) = false := beq_false_of_ne cA;have c : Hid ((whoB o s && (if true then busyB k f l m d else restB k f l m d)) = false) := by unfold Hid; simp [whoB, busyB, fromB, j, n, p, q, v, z, cA]
         rw [c.out];go_enter Tryz.func129, Tryz.ntmps129;go_wp2_with ((go_at_call 126; refine (l1In_any _ _ _ _).mono ?_; rintro e g ⟨rfl, rfl⟩))
         go_ret
         exact ⟨rfl, i.out _⟩
theorem who_bd {o s : Int} (h : whoB o s = true) : -1 ≤ o ∧ o ≤ 3 ∧ 0 ≤ s ∧ s ≤ 15 := by
 simp [whoB, betw] at h
 omega
theorem who_of {o s : Int} {b : Bool} {k f l m : Int} {d : List Int} (h : entB (o, s, b, k, f, l, m, d) = true) : whoB o s = true := by rw [eb] at h; exact (Bool.and_eq_true _ _ ▸ h).1
theorem implHolders_any (o s k f l m : Int) (b : Bool) (d : List Int) (a : Option Addr) (cap : Nat) (w : World) (h : SlRd intR w a d) :
    Calls Tryz.prog 176 #[.agg #[nI o, nI s, .bool b, nI k, nI f, nI l, nI m, sL a d.length cap]] w fun e w' => ∃ v, e = .returned v ∧ Made w w' v (if entB (o, s, b, k, f, l, m, d) then hoI o s else []) := by
 have X := heap_at w (.cells #[nI o, nI s, .bool b, nI k, nI f, nI l, nI m, sL a d.length cap] 101);have B := box_below w (.cells #[nI o, nI s, .bool b, nI k, nI f, nI l, nI m, sL a d.length cap] 101);have c : Hid _ := fun (W : World) (hb : Bl w W) => implEntryOk_any o s k f l m b d a cap W (slrd_next h hb);clear h;cases j : entB (o, s, b, k, f, l, m, d)
 ·rw [j] at c;go_enter Tryz.func176, Tryz.ntmps176;go_wp2_with fail
  generalize w.alloc (.cells #[nI o, nI s, .bool b, nI k, nI f, nI l, nI m, sL a d.length cap] 101) = W0 at X B ⊢;refine (c.out _ B).mono ?_;rintro e i ⟨rfl, g⟩;have M : Hid (Made w (i.alloc (.cells #[] 2)) (sL (some ⟨i.heap.size, 0, none⟩) 0 0) []) := made_step (below_step B g) (made_lit i #[] [] rfl (by unfold maxLen; simp));clear g c X B;go_wp2;go_ret
  exact ⟨_, rfl, M.out⟩
 ·rw [j] at c;have G : Hid (holL o s 8 = hoI o s) := holL_eq (who_of j);go_enter Tryz.func176, Tryz.ntmps176;go_wp2_with fail
  generalize w.alloc (.cells #[nI o, nI s, .bool b, nI k, nI f, nI l, nI m, sL a d.length cap] 101) = W0 at X B ⊢;refine (c.out _ B).mono ?_;rintro e i ⟨rfl, g⟩;replace X := row_keep g X;replace B := below_step B g;obtain ⟨q, r, z, C, F, H, E, y⟩ := cells_8 X;clear g c X;go_wp2_with fail
  refine (page_any o s k f l m b _ _).mono ?_;rintro e w2 ⟨rfl, p⟩;replace B := below_step B p;clear p q r z C F H E y;go_wp2_with (go_at_call 223; refine (chosenP_any o s _).mono ?_; rintro e D ⟨v, rfl, n⟩; rw [G.out] at n; have A : Hid (Made w D v (hoI o s)) := made_step B n; clear n)
  go_ret
  exact ⟨_, rfl, A.out⟩
theorem mems_in {s : Int} : ∀ {k : Nat} {x : Int}, x ∈ mems s k → 0 ≤ x ∧ x < k
 | 0, x, h => by simp [mems] at h
 | k + 1, x, h => by
  unfold mems at h;split at h
  ·rcases List.mem_append.1 h with h | h
   ·have := mems_in h; omega
   ·simp at h; omega
  ·have := mems_in h; omega
theorem ho_small {o s : Int} (h : whoB o s = true) : (hoI o s).length ≤ 8 ∧ ∀ x ∈ hoI o s, 0 ≤ x ∧ x < 8 := by
 have hb := who_bd h;unfold hoI;split
 ·exact ⟨by simp, fun x hx => by simp at hx; omega⟩
 ·exact ⟨mems_le s 8, fun x hx => mems_in hx⟩
theorem hold_small (u : EntryD) : (if entB u then hoI u.1 u.2.1 else []).length ≤ 8 ∧ Hid (∀ x ∈ (if entB u then hoI u.1 u.2.1 else []), In64 x) := by
 cases b : entB u
 ·exact ⟨by simp, fun x hx => by simp at hx⟩
 ·have c : whoB u.1 u.2.1 = true := by unfold entB at b; exact (Bool.and_eq_true _ _ ▸ b).1
  obtain ⟨d, a⟩ := ho_small c;exact ⟨d, fun x hx => ⟨by have := a x hx; omega, by have := a x hx; omega⟩⟩
theorem Tryz.infoS : (Tryz.prog.info? 68).map (fun i => (i.zero, i.size, i.bytes)) = some (some (sL none 0 0), 1, 24) := by kernel_rfl
theorem owni_less {B B' g cap : Nat} {w : World} {zs : List Int} (h : OwnI B w g cap zs) (hb : B' ≤ B) : OwnI B' w g cap zs := own_mono h hb
theorem set_step (l ys : List Value) (v : Value) (k : Nat) (hl : l.length = k) (h2 : k < ys.length) : (l ++ ys.drop k).set k v = (l ++ [v]) ++ ys.drop (k + 1) := by
 rw [List.set_append_right _ _ (by omega), hl, Nat.sub_self, List.drop_eq_getElem_cons h2];simp only [List.set_cons_zero, List.append_assoc, List.cons_append, List.nil_append]
theorem fill_step {w wr w1 : World} {k n : Nat} {rs : List Rw} {v : Value} {xs : List Int} {ys : List Value} (hk : rs.length = k) (hkn : k < n) (hys : ys.length = n)
    (ho : Out w.heap.size wr w.heap.size n n (rs.map Rw.v ++ ys.drop k)) (hin : Inn w.heap.size wr.heap.size wr rs) (hb : Bl w wr) (hm : Made wr w1 v xs) :
    ∃ g c, v = sL (some ⟨g, 0, none⟩) xs.length c ∧ (∃ v0, w1.cell? ⟨w.heap.size, k, none⟩ = some v0) ∧ w1.frozen? ⟨w.heap.size, k, none⟩ = false ∧
     Out w.heap.size (w1.setCell ⟨w.heap.size, k, none⟩ (sL (some ⟨g, 0, none⟩) xs.length c)) w.heap.size n n ((rs ++ [(⟨g, c, xs⟩ : Rw)]).map Rw.v ++ ys.drop (k + 1)) ∧
     Inn w.heap.size (w1.setCell ⟨w.heap.size, k, none⟩ (sL (some ⟨g, 0, none⟩) xs.length c)).heap.size (w1.setCell ⟨w.heap.size, k, none⟩ (sL (some ⟨g, 0, none⟩) xs.length c)) (rs ++ [(⟨g, c, xs⟩ : Rw)]) ∧
     Bl w (w1.setCell ⟨w.heap.size, k, none⟩ (sL (some ⟨g, 0, none⟩) xs.length c)) := by
 obtain ⟨g, c, rfl, o, p, l, b⟩ := hm;have f := hb.size;have i := own_lt ho;have a : Out w.heap.size w1 w.heap.size n n (rs.map Rw.v ++ ys.drop k) := own_block ho (b.block _ i.2);have d := inn_push (inn_below hin b (Nat.le_refl _)) (owni_less l f) o p;have R := World.ownsRow.stored a k (sL (some ⟨g, 0, none⟩) xs.length c);rw [set_step _ _ _ k (by simpa using hk) (by omega)] at R;refine ⟨g, c, rfl, ?_, World.ownsRow.frozenAt a k, ?_, ?_, (below_step hb b).grown R.2 (Nat.le_trans f b.size) (by intro j m; cases m; exact Nat.le_refl _)⟩
 ·rw [World.ownsRow.cellAt a k (by omega)];exact ⟨_, List.getElem?_eq_getElem (by have := a.1; omega)⟩
 ·have := R.1;rw [List.map_append];exact this
 ·exact inn_mono (inn_out d a R.2) R.2.size
theorem fill_end {w wr : World} {n : Nat} {rs : List Rw} {xss : List (List Int)} {ys : List Value} (hx : rs.map Rw.xs = xss) (hn : xss.length = n) (hys : ys.length = n)
    (ho : Out w.heap.size wr w.heap.size n n (rs.map Rw.v ++ ys.drop n)) (hin : Inn w.heap.size wr.heap.size wr rs) (hb : Bl w wr) : MadeM w wr (sL (some ⟨w.heap.size, 0, none⟩) xss.length n) xss := by
 rw [List.drop_of_length_le (by omega), List.append_nil] at ho;exact ⟨_, _, rfl, Nat.le_refl _, (own_lt ho).2, ⟨rs, hx, by rw [hn]; exact ho, (own_lt ho).2, hin⟩, hb⟩
theorem take_push {xss : List (List Int)} {rs : List Rw} {k g c : Nat} {xs : List Int} (h : rs.map Rw.xs = xss.take k) (hx : xss[k]? = some xs) : (rs ++ [(⟨g, c, xs⟩ : Rw)]).map Rw.xs = xss.take (k + 1) := by
 rw [List.map_append, h, List.take_add_one, hx];rfl
theorem out_made (w : World) (n : Nat) (hn : n ≤ maxLen) : Out w.heap.size (w.alloc (.cells (madeCells #[sL none 0 0] n) 68)) w.heap.size n n (madeCells #[sL none 0 0] n).toList :=
 World.ownsRow_lit (base := w.heap.size) (e := 68) (size := 1) w (madeCells #[sL none 0 0] n) n (Nat.le_refl _) hn (by simp [size_madeCells])
theorem made_none3 (w : World) (k : Nat) (h : k = w.heap.size) : Made w (w.alloc (.cells #[] 2)) (sL (some ⟨k, 0, none⟩) 0 0) [] := by
 subst h;exact made_lit w #[] [] rfl (Nat.zero_le _)
theorem reads_step {w w1 : World} {a : Option Addr} {xs : List Int} (h : Reads w a xs) (hb : Bl w w1) (o : Obj) : Reads (w1.alloc o) a xs :=
 reads_below h (hb.alloc hb.size o)
theorem implMasked_no (a a2 : Option Addr) (xs ys : List Int) (cap cap2 : Nat) (m : Int) (w : World) (h : Reads w a xs) (h2 : Reads w a2 ys) (hn : (isL xs && isL ys && betw m 0 3) = false) :
    Calls Tryz.prog 96 #[sL a xs.length cap, sL a2 ys.length cap2, nI m] w fun e f => ∃ v, e = .returned v ∧ Made w f v [] := by
 have d : ∀ b c g : Bool, isL xs = b → isL ys = c → betw m 0 3 = g → (b && c && g) = false →
     Calls Tryz.prog 96 #[sL a xs.length cap, sL a2 ys.length cap2, nI m] w fun e f => ∃ v, e = .returned v ∧ Made w f v [] := by
  intro b c g k j l n;cases b <;> cases c <;> cases g
  case true.true.true => simp at n
  all_goals
   go_enter Tryz.func96, Tryz.ntmps96;go_wp2_with fail
   refine (wordsOf_any _ xs _ _ h).mono ?_;rintro e w1 ⟨x, y, rfl, b⟩;rw [k];have i := reads_step h2 b (.cells #[nI x, nI y] 204);go_wp2_with fail
   refine (wordsOf_any _ ys _ _ i).mono ?_;rintro e w2 ⟨x2, y2, rfl, c⟩;rw [j];have B := below_step (b.alloc b.size _) c;clear i b c;go_wp2_with (go_at_call 160; refine (maskOk_any _ _).mono ?_; rintro e f ⟨rfl, rfl⟩; rw [l])
   go_ret
   exact ⟨_, rfl, made_step (B.alloc B.size _) (made_none3 _ _ (by simp))⟩
 exact d _ _ _ rfl rfl rfl hn
theorem implMasked_yes (a a2 : Option Addr) (x y x2 y2 : Int) (cap cap2 : Nat) (m : Int) (w : World) (h : Reads w a [x, y]) (h2 : Reads w a2 [x2, y2])
    (hx : okW x = true) (hy : okW y = true) (hx2 : okW x2 = true) (hy2 : okW y2 = true) (hm : betw m 0 3 = true) :
    Calls Tryz.prog 96 #[sL a 2 cap, sL a2 2 cap2, nI m] w fun e d => ∃ v, e = .returned v ∧ Made w d v (maskL [x, y] [x2, y2] m) := by
 have C : Hid (maskL [x, y] [x2, y2] m = [if m % 2 = 1 then x2 else x, if m / 2 % 2 = 1 then y2 else y]) := by
  unfold Hid maskL; simp [isL_yes hx hy, isL_yes hx2 hy2, hm]
 have b : ∀ p n : Bool, inB m 0 = p → inB m 1 = n → [if p then x2 else x, if n then y2 else y] = [if m % 2 = 1 then x2 else x, if m / 2 % 2 = 1 then y2 else y] →
     Calls Tryz.prog 96 #[sL a 2 cap, sL a2 2 cap2, nI m] w fun e d => ∃ v, e = .returned v ∧ Made w d v (maskL [x, y] [x2, y2] m) := by
  intro p n e0 e1 A;have D : Hid _ := A;clear A;cases p <;> cases n
  all_goals
   go_enter Tryz.func96, Tryz.ntmps96;go_wp2_with fail
   refine (wordsOf_yes _ x y _ _ h hx hy).mono ?_;rintro e g ⟨rfl, i⟩;have z := reads_step h2 i (.cells #[nI x, nI y] 204);go_wp2_with fail
   refine (wordsOf_yes _ x2 y2 _ _ z hx2 hy2).mono ?_;rintro e f ⟨rfl, r⟩;have R := row_keep r (heap_alloc_new g (.cells #[nI x, nI y] 204));have q := i.size;have B := below_step (i.alloc i.size _) r;have k : g.heap.size < f.heap.size := (ltH R);clear z i r;go_wp2_with (go_at_call 160; refine (maskOk_any _ _).mono ?_; rintro e d ⟨rfl, rfl⟩)
   have l := (Below.heap_alloc f (.cells #[nI x2, nI y2] 204) _ k).trans R;have F := heap_alloc_new f (.cells #[nI x2, nI y2] 204);have o := B.alloc B.size (.cells #[nI x2, nI y2] 204);have j : g.heap.size ≠ f.heap.size := by omega
   have c : w.heap.size ≤ g.heap.size := q;clear R B k;generalize f.alloc (.cells #[nI x2, nI y2] 204) = W at l F o ⊢;generalize f.heap.size = g2 at F j ⊢;generalize g.heap.size = g1 at l j c ⊢;obtain ⟨q0, q1⟩ := cell_two l;obtain ⟨f0, f1⟩ := froz_two l;obtain ⟨y0, y1⟩ := cell_two F;refine wp_loop_rounds 3 ?_;rw [rounds_succ];go_wp2_with (go_at_call 161; refine (implIn_any _ _ _).mono ?_; rintro e d ⟨rfl, rfl⟩)
   rw [rounds_succ];go_wp2_with (go_at_call 161; refine (implIn_any _ _ _).mono ?_; rintro e d ⟨rfl, rfl⟩)
   rw [rounds_succ];go_wp2_with (go_at_call 162; refine (twoList_any _ _ _).mono ?_; rintro e w3 ⟨v, rfl, s⟩)
   go_ret
   rw [C.out, ← D.out];first | exact ⟨_, rfl, made_step o s⟩ | exact ⟨_, rfl, made_step (o.setCell c _) s⟩ | exact ⟨_, rfl, made_step ((o.setCell c _).setCell c _) s⟩
 rcases betw_four hm with rfl | rfl | rfl | rfl
 ·exact b false false (by decide +kernel) (by decide +kernel) rfl
 ·exact b true false (by decide +kernel) (by decide +kernel) rfl
 ·exact b false true (by decide +kernel) (by decide +kernel) rfl
 ·exact b true true (by decide +kernel) (by decide +kernel) rfl
theorem implMasked_any (a a2 : Option Addr) (xs ys : List Int) (cap cap2 : Nat) (m : Int) (w : World) (h : Reads w a xs) (h2 : Reads w a2 ys) :
    Calls Tryz.prog 96 #[sL a xs.length cap, sL a2 ys.length cap2, nI m] w fun e w' => ∃ v, e = .returned v ∧ Made w w' v (maskL xs ys m) := by
 by_cases b : (isL xs && isL ys && betw m 0 3) = false
 ·have e : maskL xs ys m = [] := by unfold maskL; rw [b]; rfl
  rw [e];exact implMasked_no a a2 xs ys cap cap2 m w h h2 b
 ·rcases isL_cases xs with d | ⟨x, y, rfl, j, i⟩
  ·simp [d] at b
  rcases isL_cases ys with d | ⟨l, k, rfl, f, c⟩
  ·simp [d] at b
  cases g : betw m 0 3
  ·simp [g] at b
  exact implMasked_yes a a2 x y l k cap cap2 m w h h2 j i f c g
theorem made_zeroM (n : Nat) : (madeCells #[nI 0] n).toList = (List.replicate n (0 : Int)).map (Value.int .i64) := by
 apply List.ext_getElem?
 intro i;simp only [madeCells, Array.toList_map, Array.toList_range, List.getElem?_map, List.getElem?_replicate];by_cases h : i < n
 ·simp [h, Nat.mod_one]
 ·simp [h]
theorem owni_cap {B g cap : Nat} {w : World} {zs : List Int} (h : OwnI B w g cap zs) : zs.length ≤ cap ∧ cap ≤ maxLen := by
 rcases h.2 with ⟨a, _⟩ | ⟨g', b, c, a, d, f, j, i, rest⟩
 ·simp at a
 ·simp only [Value.slice.injEq, Option.some.injEq, Addr.mk.injEq, and_true, true_and] at a;obtain ⟨rfl, rfl⟩ := a;exact ⟨j, i⟩
theorem newRow_any (n : Nat) (w : World) (hn : n ≤ 16) : Calls Tryz.prog 90 #[nI n] w fun e w' => ∃ v, e = .returned v ∧ Made w w' v (List.replicate (n * 2) 0) := by
 have a := Go.run_make_row' (P := Tryz.prog) 69 2 (nI 0) 8 Tryz.underlying69 Tryz.infoI rfl .i64 .i64 (n * 2) (by omega) (by omega);have c : ((n * 2 : Nat) : Int) = (n : Int) * 2 := by omega
 simp only [c] at a;have M := made_lit w (madeCells #[nI 0] (n * 2)) (List.replicate (n * 2) 0) (made_zeroM _) (by unfold maxLen; simp; omega);rw [List.length_replicate] at M;have b : Hid _ := M;clear M;go_enter Tryz.func90, Tryz.ntmps90;go_wp2;go_ret
 exact ⟨_, rfl, b.out⟩
theorem rowLines_any (a : Option Addr) (m n cap : Nat) (w : World) (hn : m ≤ 16) (he : n = m * 2) : Calls Tryz.prog 97 #[sL a n cap] w fun e w' => e = .returned (nI m) ∧ w' = w := by
 subst he;have e2 : Int.tdiv ((m : Int) * 2) 2 = m := by rw [Int.tdiv_eq_ediv_of_nonneg (by omega)]; omega
 go_enter Tryz.func97, Tryz.ntmps97;go_wp2;go_ret
 refine ⟨ret_int ?_, rfl⟩;first | rfl | (simp; done) | omega | (simp; omega)
theorem rowHas_any (a : Option Addr) (m n cap : Nat) (k : Int) (w : World) (hn : m ≤ 16) (he : n = m * 2) : Calls Tryz.prog 95 #[sL a n cap, nI k] w fun e b => e = .returned (.bool (betw k 0 ((m : Int) - 1))) ∧ b = w := by
 have c : Hid (n = m * 2) := he;clear he;go_enter Tryz.func95, Tryz.ntmps95
 go_wp2_with (first
  | (go_at_call 97; refine (rowLines_any _ m _ _ _ hn c.out).mono ?_; rintro e b ⟨rfl, rfl⟩)
  | (go_at_call 156; refine (between_any _ _ _ _).mono ?_; rintro e b ⟨rfl, rfl⟩))
 go_ret
 exact ⟨rfl, rfl⟩
theorem cut_any (g n cap j : Nat) (w : World) (hj : j ≤ 16) (h : j * 2 + 2 ≤ cap) : Calls Tryz.prog 92 #[sL (some ⟨g, 0, none⟩) n cap, nI j] w fun e w' => e = .returned (sL (some ⟨g, j * 2, none⟩) 2 2) ∧ w' = w := by
 go_enter Tryz.func92, Tryz.ntmps92;go_wp2;go_ret
 refine ⟨?_, rfl⟩;have a : j * 2 + 2 - j * 2 = 2 := by omega
 rw [a];rfl
end Go.Proofs.YtdamokokcdcedaaGreatDoor
