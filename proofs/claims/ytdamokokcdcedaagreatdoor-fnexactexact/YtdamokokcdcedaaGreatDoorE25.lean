import Derived.Test.YtdamokokcdcedaaGreatDoorE00Box
import Derived.Test.YtdamokokcdcedaaGreatDoorE24
namespace Go.Proofs.YtdamokokcdcedaaGreatDoor
open Go.ChangeShapes Go.WideShapes Go.ChangeAt Go.RowKit
set_option linter.unusedVariables false
set_option maxHeartbeats 8000000 in
theorem specEntryOk_any (o s k f l m : Int) (b : Bool) (d : List Int) (a : Option Addr) (cap : Nat) (w : World) (h : SlRd intR w a d) :
    Calls Tryz.prog 129 #[.agg #[nI o, nI s, .bool b, nI k, nI f, nI l, nI m, sL a d.length cap]] w fun e g => e = .returned (.bool (entB (o, s, b, k, f, l, m, d))) ∧ Bl w g := by
 have i : Hid _ := box_below w;have R : Hid _ := fun (W : World) (hb : Bl w W) => specLineOk_any a d cap W (reads_of (slrd_next h hb));clear h;rw [eb];cases j : betw o (-1) 3
 ·have c : Hid ((whoB o s && (if b then busyB k f l m d else restB k f l m d)) = false) := by unfold Hid; simp [whoB, j]
  rw [c.out];go_enter Tryz.func129, Tryz.ntmps129;go_wp2_with ((go_at_call 126; refine (l1In_any _ _ _ _).mono ?_; rintro e g ⟨rfl, rfl⟩))
  go_ret
  exact ⟨rfl, i.out _⟩
 ·cases n : betw s 0 15
  ·have c : Hid ((whoB o s && (if b then busyB k f l m d else restB k f l m d)) = false) := by unfold Hid; simp [whoB, j, n]
   rw [c.out];go_enter Tryz.func129, Tryz.ntmps129;go_wp2_with ((go_at_call 126; refine (l1In_any _ _ _ _).mono ?_; rintro e g ⟨rfl, rfl⟩))
   go_ret
   exact ⟨rfl, i.out _⟩
  ·by_cases p : 0 ≤ o
   ·by_cases h4 : s = 0
    ·subst h4;cases b
     ·by_cases h5 : k = 0
      ·subst h5;by_cases h6 : f = 0
       ·subst h6;by_cases h7 : l = 0
        ·subst h7;by_cases h8 : m = 0
         ·subst h8;by_cases h9 : d.length = 0
          ·have B : d = [] := List.eq_nil_of_length_eq_zero h9;subst B;have c : Hid ((whoB o 0 && (if false then busyB 0 0 0 0 ([] : List Int) else restB 0 0 0 0 ([] : List Int))) = true) := by unfold Hid; simp [whoB, restB, j, n, p]
           rw [c.out];go_enter Tryz.func129, Tryz.ntmps129;go_wp2_with ((go_at_call 126; refine (l1In_any _ _ _ _).mono ?_; rintro e g ⟨rfl, rfl⟩))
           go_ret
           exact ⟨rfl, i.out _⟩
          ·have H : ¬ (d = []) := fun e => h9 (by rw [e]; rfl);have F : ¬ ((d.length : Int) = 0) := by omega
           have E : ((d.length : Int) == 0) = false := beq_false_of_ne F;have c : Hid ((whoB o 0 && (if false then busyB 0 0 0 0 d else restB 0 0 0 0 d)) = false) := by unfold Hid; simp [whoB, restB, j, n, p, h9]
           rw [c.out];go_enter Tryz.func129, Tryz.ntmps129;go_wp2_with ((go_at_call 126; refine (l1In_any _ _ _ _).mono ?_; rintro e g ⟨rfl, rfl⟩))
           go_ret
           exact ⟨rfl, i.out _⟩
         ·have LA : (m == 0) = false := beq_false_of_ne h8;have c : Hid ((whoB o 0 && (if false then busyB 0 0 0 m d else restB 0 0 0 m d)) = false) := by unfold Hid; simp [whoB, restB, j, n, p, h8]
          rw [c.out];go_enter Tryz.func129, Tryz.ntmps129;go_wp2_with ((go_at_call 126; refine (l1In_any _ _ _ _).mono ?_; rintro e g ⟨rfl, rfl⟩))
          go_ret
          exact ⟨rfl, i.out _⟩
        ·have MA : (l == 0) = false := beq_false_of_ne h7;have c : Hid ((whoB o 0 && (if false then busyB 0 0 l m d else restB 0 0 l m d)) = false) := by unfold Hid; simp [whoB, restB, j, n, p, h7]
         rw [c.out];go_enter Tryz.func129, Tryz.ntmps129;go_wp2_with ((go_at_call 126; refine (l1In_any _ _ _ _).mono ?_; rintro e g ⟨rfl, rfl⟩))
         go_ret
         exact ⟨rfl, i.out _⟩
       ·have RA : (f == 0) = false := beq_false_of_ne h6;have c : Hid ((whoB o 0 && (if false then busyB 0 f l m d else restB 0 f l m d)) = false) := by unfold Hid; simp [whoB, restB, j, n, p, h6]
        rw [c.out];go_enter Tryz.func129, Tryz.ntmps129;go_wp2_with ((go_at_call 126; refine (l1In_any _ _ _ _).mono ?_; rintro e g ⟨rfl, rfl⟩))
        go_ret
        exact ⟨rfl, i.out _⟩
      ·have NA : (k == 0) = false := beq_false_of_ne h5;have c : Hid ((whoB o 0 && (if false then busyB k f l m d else restB k f l m d)) = false) := by unfold Hid; simp [whoB, restB, j, n, p, h5]
       rw [c.out];go_enter Tryz.func129, Tryz.ntmps129;go_wp2_with ((go_at_call 126; refine (l1In_any _ _ _ _).mono ?_; rintro e g ⟨rfl, rfl⟩))
       go_ret
       exact ⟨rfl, i.out _⟩
     ·cases r : betw k 1 4
      ·have c : Hid ((whoB o 0 && (if true then busyB k f l m d else restB k f l m d)) = false) := by unfold Hid; simp [whoB, busyB, j, n, p, r]
       rw [c.out];go_enter Tryz.func129, Tryz.ntmps129;go_wp2_with ((go_at_call 126; refine (l1In_any _ _ _ _).mono ?_; rintro e g ⟨rfl, rfl⟩))
       go_ret
       exact ⟨rfl, i.out _⟩
      ·cases y : betw l 0 4
       ·have c : Hid ((whoB o 0 && (if true then busyB k f l m d else restB k f l m d)) = false) := by unfold Hid; simp [whoB, busyB, j, n, p, r, y]
        rw [c.out];go_enter Tryz.func129, Tryz.ntmps129;go_wp2_with ((go_at_call 126; refine (l1In_any _ _ _ _).mono ?_; rintro e g ⟨rfl, rfl⟩))
        go_ret
        exact ⟨rfl, i.out _⟩
       ·by_cases z : k ≤ 2
        ·cases M : betw f 0 3
         ·have c : Hid ((whoB o 0 && (if true then busyB k f l m d else restB k f l m d)) = false) := by unfold Hid; simp [whoB, busyB, fromB, j, n, p, r, y, z, M]
          rw [c.out];go_enter Tryz.func129, Tryz.ntmps129;go_wp2_with ((go_at_call 126; refine (l1In_any _ _ _ _).mono ?_; rintro e g ⟨rfl, rfl⟩))
          go_ret
          exact ⟨rfl, i.out _⟩
         ·have N : ¬ k = 4 := by omega
          have sA : (k == 4) = false := beq_false_of_ne N;by_cases kA : m = 0
          ·subst kA;by_cases Z : d.length = 0
           ·have B : d = [] := List.eq_nil_of_length_eq_zero Z;subst B;have c : Hid ((whoB o 0 && (if true then busyB k f l 0 ([] : List Int) else restB k f l 0 ([] : List Int))) = true) := by unfold Hid; simp [whoB, busyB, fromB, loadB, j, n, p, r, y, z, M, N]
            rw [c.out];go_enter Tryz.func129, Tryz.ntmps129;go_wp2_with ((go_at_call 126; refine (l1In_any _ _ _ _).mono ?_; rintro e g ⟨rfl, rfl⟩))
            go_ret
            exact ⟨rfl, i.out _⟩
           ·have H : ¬ (d = []) := fun e => Z (by rw [e]; rfl);have F : ¬ ((d.length : Int) = 0) := by omega
            have E : ((d.length : Int) == 0) = false := beq_false_of_ne F;have c : Hid ((whoB o 0 && (if true then busyB k f l 0 d else restB k f l 0 d)) = false) := by unfold Hid; simp [whoB, busyB, fromB, loadB, j, n, p, r, y, z, M, N, Z]
            rw [c.out];go_enter Tryz.func129, Tryz.ntmps129;go_wp2_with ((go_at_call 126; refine (l1In_any _ _ _ _).mono ?_; rintro e g ⟨rfl, rfl⟩))
            go_ret
            exact ⟨rfl, i.out _⟩
          ·have vA : (m == 0) = false := beq_false_of_ne kA;have c : Hid ((whoB o 0 && (if true then busyB k f l m d else restB k f l m d)) = false) := by unfold Hid; simp [whoB, busyB, fromB, loadB, j, n, p, r, y, z, M, N, kA]
           rw [c.out];go_enter Tryz.func129, Tryz.ntmps129;go_wp2_with ((go_at_call 126; refine (l1In_any _ _ _ _).mono ?_; rintro e g ⟨rfl, rfl⟩))
           go_ret
           exact ⟨rfl, i.out _⟩
        ·by_cases X : f = 5
         ·subst X;by_cases C : l = 0
          ·subst C;have c : Hid ((whoB o 0 && (if true then busyB k 5 0 m d else restB k 5 0 m d)) = false) := by unfold Hid; simp [whoB, busyB, fromB, j, n, p, r, y, z]
           rw [c.out];go_enter Tryz.func129, Tryz.ntmps129;go_wp2_with ((go_at_call 126; refine (l1In_any _ _ _ _).mono ?_; rintro e g ⟨rfl, rfl⟩))
           go_ret
           exact ⟨rfl, i.out _⟩
          ·have CA : (l == 0) = false := beq_false_of_ne C;by_cases G : k = 4
           ·subst G;cases gA : betw m 0 3
            ·have c : Hid ((whoB o 0 && (if true then busyB 4 5 l m d else restB 4 5 l m d)) = false) := by unfold Hid; simp [whoB, busyB, fromB, loadB, j, n, p, r, y, z, C, gA]
             rw [c.out];go_enter Tryz.func129, Tryz.ntmps129;go_wp2_with ((go_at_call 126; refine (l1In_any _ _ _ _).mono ?_; rintro e g ⟨rfl, rfl⟩))
             go_ret
             exact ⟨rfl, i.out _⟩
            ·cases K : isL d
             ·have c : Hid ((whoB o 0 && (if true then busyB 4 5 l m d else restB 4 5 l m d)) = false) := by unfold Hid; simp [whoB, busyB, fromB, loadB, j, n, p, r, y, z, C, gA, K]
              rw [c.out];rw [K] at R;go_enter Tryz.func129, Tryz.ntmps129;go_wp2_with (first | (go_at_call 126; refine (l1In_any _ _ _ _).mono ?_; rintro e g ⟨rfl, rfl⟩) | (go_at_call 131; refine (R.out _ (i.out _)).mono ?_; rintro e g ⟨rfl, rfl⟩))
              go_ret
              exact ⟨rfl, i.out _⟩
             ·have c : Hid ((whoB o 0 && (if true then busyB 4 5 l m d else restB 4 5 l m d)) = true) := by unfold Hid; simp [whoB, busyB, fromB, loadB, j, n, p, r, y, z, C, gA, K]
              rw [c.out];rw [K] at R;go_enter Tryz.func129, Tryz.ntmps129;go_wp2_with (first | (go_at_call 126; refine (l1In_any _ _ _ _).mono ?_; rintro e g ⟨rfl, rfl⟩) | (go_at_call 131; refine (R.out _ (i.out _)).mono ?_; rintro e g ⟨rfl, rfl⟩))
              go_ret
              exact ⟨rfl, i.out _⟩
           ·have GA : (k == 4) = false := beq_false_of_ne G;by_cases cA : m = 0
            ·subst cA;by_cases eA : d.length = 0
             ·have B : d = [] := List.eq_nil_of_length_eq_zero eA;subst B;have c : Hid ((whoB o 0 && (if true then busyB k 5 l 0 ([] : List Int) else restB k 5 l 0 ([] : List Int))) = true) := by unfold Hid; simp [whoB, busyB, fromB, loadB, j, n, p, r, y, z, C, G]
              rw [c.out];go_enter Tryz.func129, Tryz.ntmps129;go_wp2_with ((go_at_call 126; refine (l1In_any _ _ _ _).mono ?_; rintro e g ⟨rfl, rfl⟩))
              go_ret
              exact ⟨rfl, i.out _⟩
             ·have H : ¬ (d = []) := fun e => eA (by rw [e]; rfl);have F : ¬ ((d.length : Int) = 0) := by omega
              have E : ((d.length : Int) == 0) = false := beq_false_of_ne F;have c : Hid ((whoB o 0 && (if true then busyB k 5 l 0 d else restB k 5 l 0 d)) = false) := by unfold Hid; simp [whoB, busyB, fromB, loadB, j, n, p, r, y, z, C, G, eA]
              rw [c.out];go_enter Tryz.func129, Tryz.ntmps129;go_wp2_with ((go_at_call 126; refine (l1In_any _ _ _ _).mono ?_; rintro e g ⟨rfl, rfl⟩))
              go_ret
              exact ⟨rfl, i.out _⟩
            ·have IA : (m == 0) = false := beq_false_of_ne cA;have c : Hid ((whoB o 0 && (if true then busyB k 5 l m d else restB k 5 l m d)) = false) := by unfold Hid; simp [whoB, busyB, fromB, loadB, j, n, p, r, y, z, C, G, cA]
             rw [c.out];go_enter Tryz.func129, Tryz.ntmps129;go_wp2_with ((go_at_call 126; refine (l1In_any _ _ _ _).mono ?_; rintro e g ⟨rfl, rfl⟩))
             go_ret
             exact ⟨rfl, i.out _⟩
         ·have zA : (f == 5) = false := beq_false_of_ne X;have c : Hid ((whoB o 0 && (if true then busyB k f l m d else restB k f l m d)) = false) := by unfold Hid; simp [whoB, busyB, fromB, j, n, p, r, y, z, X]
          rw [c.out];go_enter Tryz.func129, Tryz.ntmps129;go_wp2_with ((go_at_call 126; refine (l1In_any _ _ _ _).mono ?_; rintro e g ⟨rfl, rfl⟩))
          go_ret
          exact ⟨rfl, i.out _⟩
    ·have OA : (s == 0) = false := beq_false_of_ne h4;have c : Hid ((whoB o s && (if b then busyB k f l m d else restB k f l m d)) = false) := by unfold Hid; simp [whoB, j, n, p, h4]
     rw [c.out];go_enter Tryz.func129, Tryz.ntmps129;go_wp2_with ((go_at_call 126; refine (l1In_any _ _ _ _).mono ?_; rintro e g ⟨rfl, rfl⟩))
     go_ret
     exact ⟨rfl, i.out _⟩
   ·cases b
    ·by_cases fA : k = 0
     ·subst fA;by_cases S : f = 0
      ·subst S;by_cases T : l = 0
       ·subst T;by_cases jA : m = 0
        ·subst jA;by_cases dA : d.length = 0
         ·have B : d = [] := List.eq_nil_of_length_eq_zero dA;subst B;have c : Hid ((whoB o s && (if false then busyB 0 0 0 0 ([] : List Int) else restB 0 0 0 0 ([] : List Int))) = true) := by unfold Hid; simp [whoB, restB, j, n, p]
          rw [c.out];go_enter Tryz.func129, Tryz.ntmps129;go_wp2_with ((go_at_call 126; refine (l1In_any _ _ _ _).mono ?_; rintro e g ⟨rfl, rfl⟩))
          go_ret
          exact ⟨rfl, i.out _⟩
         ·have H : ¬ (d = []) := fun e => dA (by rw [e]; rfl);have F : ¬ ((d.length : Int) = 0) := by omega
          have E : ((d.length : Int) == 0) = false := beq_false_of_ne F;have c : Hid ((whoB o s && (if false then busyB 0 0 0 0 d else restB 0 0 0 0 d)) = false) := by unfold Hid; simp [whoB, restB, j, n, p, dA]
          rw [c.out];go_enter Tryz.func129, Tryz.ntmps129;go_wp2_with ((go_at_call 126; refine (l1In_any _ _ _ _).mono ?_; rintro e g ⟨rfl, rfl⟩))
          go_ret
          exact ⟨rfl, i.out _⟩
        ·have AA : (m == 0) = false := beq_false_of_ne jA;have c : Hid ((whoB o s && (if false then busyB 0 0 0 m d else restB 0 0 0 m d)) = false) := by unfold Hid; simp [whoB, restB, j, n, p, jA]
         rw [c.out];go_enter Tryz.func129, Tryz.ntmps129;go_wp2_with ((go_at_call 126; refine (l1In_any _ _ _ _).mono ?_; rintro e g ⟨rfl, rfl⟩))
         go_ret
         exact ⟨rfl, i.out _⟩
       ·have EA : (l == 0) = false := beq_false_of_ne T;have c : Hid ((whoB o s && (if false then busyB 0 0 l m d else restB 0 0 l m d)) = false) := by unfold Hid; simp [whoB, restB, j, n, p, T]
        rw [c.out];go_enter Tryz.func129, Tryz.ntmps129;go_wp2_with ((go_at_call 126; refine (l1In_any _ _ _ _).mono ?_; rintro e g ⟨rfl, rfl⟩))
        go_ret
        exact ⟨rfl, i.out _⟩
      ·have HA : (f == 0) = false := beq_false_of_ne S;have c : Hid ((whoB o s && (if false then busyB 0 f l m d else restB 0 f l m d)) = false) := by unfold Hid; simp [whoB, restB, j, n, p, S]
       rw [c.out];go_enter Tryz.func129, Tryz.ntmps129;go_wp2_with ((go_at_call 126; refine (l1In_any _ _ _ _).mono ?_; rintro e g ⟨rfl, rfl⟩))
       go_ret
       exact ⟨rfl, i.out _⟩
     ·have KA : (k == 0) = false := beq_false_of_ne fA;have c : Hid ((whoB o s && (if false then busyB k f l m d else restB k f l m d)) = false) := by unfold Hid; simp [whoB, restB, j, n, p, fA]
      rw [c.out];go_enter Tryz.func129, Tryz.ntmps129;go_wp2_with ((go_at_call 126; refine (l1In_any _ _ _ _).mono ?_; rintro e g ⟨rfl, rfl⟩))
      go_ret
      exact ⟨rfl, i.out _⟩
    ·cases q : betw k 1 4
     ·have c : Hid ((whoB o s && (if true then busyB k f l m d else restB k f l m d)) = false) := by unfold Hid; simp [whoB, busyB, j, n, p, q]
      rw [c.out];go_enter Tryz.func129, Tryz.ntmps129;go_wp2_with ((go_at_call 126; refine (l1In_any _ _ _ _).mono ?_; rintro e g ⟨rfl, rfl⟩))
      go_ret
      exact ⟨rfl, i.out _⟩
     ·cases v : betw l 0 4
      ·have c : Hid ((whoB o s && (if true then busyB k f l m d else restB k f l m d)) = false) := by unfold Hid; simp [whoB, busyB, j, n, p, q, v]
       rw [c.out];go_enter Tryz.func129, Tryz.ntmps129;go_wp2_with ((go_at_call 126; refine (l1In_any _ _ _ _).mono ?_; rintro e g ⟨rfl, rfl⟩))
       go_ret
       exact ⟨rfl, i.out _⟩
      ·by_cases A : k ≤ 2
       ·cases L : betw f 0 3
        ·have c : Hid ((whoB o s && (if true then busyB k f l m d else restB k f l m d)) = false) := by unfold Hid; simp [whoB, busyB, fromB, j, n, p, q, v, A, L]
         rw [c.out];go_enter Tryz.func129, Tryz.ntmps129;go_wp2_with ((go_at_call 126; refine (l1In_any _ _ _ _).mono ?_; rintro e g ⟨rfl, rfl⟩))
         go_ret
         exact ⟨rfl, i.out _⟩
        ·have O : ¬ k = 4 := by omega
         have FA : (k == 4) = false := beq_false_of_ne O;by_cases iA : m = 0
         ·subst iA;by_cases bA : d.length = 0
          ·have B : d = [] := List.eq_nil_of_length_eq_zero bA;subst B;have c : Hid ((whoB o s && (if true then busyB k f l 0 ([] : List Int) else restB k f l 0 ([] : List Int))) = true) := by unfold Hid; simp [whoB, busyB, fromB, loadB, j, n, p, q, v, A, L, O]
           rw [c.out];go_enter Tryz.func129, Tryz.ntmps129;go_wp2_with ((go_at_call 126; refine (l1In_any _ _ _ _).mono ?_; rintro e g ⟨rfl, rfl⟩))
           go_ret
           exact ⟨rfl, i.out _⟩
          ·have H : ¬ (d = []) := fun e => bA (by rw [e]; rfl);have F : ¬ ((d.length : Int) = 0) := by omega
           have E : ((d.length : Int) == 0) = false := beq_false_of_ne F;have c : Hid ((whoB o s && (if true then busyB k f l 0 d else restB k f l 0 d)) = false) := by unfold Hid; simp [whoB, busyB, fromB, loadB, j, n, p, q, v, A, L, O, bA]
           rw [c.out];go_enter Tryz.func129, Tryz.ntmps129;go_wp2_with ((go_at_call 126; refine (l1In_any _ _ _ _).mono ?_; rintro e g ⟨rfl, rfl⟩))
           go_ret
           exact ⟨rfl, i.out _⟩
         ·have DA : (m == 0) = false := beq_false_of_ne iA;have c : Hid ((whoB o s && (if true then busyB k f l m d else restB k f l m d)) = false) := by unfold Hid; simp [whoB, busyB, fromB, loadB, j, n, p, q, v, A, L, O, iA]
          rw [c.out];go_enter Tryz.func129, Tryz.ntmps129;go_wp2_with ((go_at_call 126; refine (l1In_any _ _ _ _).mono ?_; rintro e g ⟨rfl, rfl⟩))
          go_ret
          exact ⟨rfl, i.out _⟩
       ·by_cases Y : f = 5
        ·subst Y;by_cases D : l = 0
         ·subst D;have c : Hid ((whoB o s && (if true then busyB k 5 0 m d else restB k 5 0 m d)) = false) := by unfold Hid; simp [whoB, busyB, fromB, j, n, p, q, v, A]
          rw [c.out];go_enter Tryz.func129, Tryz.ntmps129;go_wp2_with ((go_at_call 126; refine (l1In_any _ _ _ _).mono ?_; rintro e g ⟨rfl, rfl⟩))
          go_ret
          exact ⟨rfl, i.out _⟩
         ·have JA : (l == 0) = false := beq_false_of_ne D;by_cases I : k = 4
          ·subst I;cases V : betw m 0 3
           ·have c : Hid ((whoB o s && (if true then busyB 4 5 l m d else restB 4 5 l m d)) = false) := by unfold Hid; simp [whoB, busyB, fromB, loadB, j, n, p, q, v, A, D, V]
            rw [c.out];go_enter Tryz.func129, Tryz.ntmps129;go_wp2_with ((go_at_call 126; refine (l1In_any _ _ _ _).mono ?_; rintro e g ⟨rfl, rfl⟩))
            go_ret
            exact ⟨rfl, i.out _⟩
           ·cases J : isL d
            ·have c : Hid ((whoB o s && (if true then busyB 4 5 l m d else restB 4 5 l m d)) = false) := by unfold Hid; simp [whoB, busyB, fromB, loadB, j, n, p, q, v, A, D, V, J]
             rw [c.out];rw [J] at R;go_enter Tryz.func129, Tryz.ntmps129;go_wp2_with (first | (go_at_call 126; refine (l1In_any _ _ _ _).mono ?_; rintro e g ⟨rfl, rfl⟩) | (go_at_call 131; refine (R.out _ (i.out _)).mono ?_; rintro e g ⟨rfl, rfl⟩))
             go_ret
             exact ⟨rfl, i.out _⟩
            ·have c : Hid ((whoB o s && (if true then busyB 4 5 l m d else restB 4 5 l m d)) = true) := by unfold Hid; simp [whoB, busyB, fromB, loadB, j, n, p, q, v, A, D, V, J]
             rw [c.out];rw [J] at R;go_enter Tryz.func129, Tryz.ntmps129;go_wp2_with (first | (go_at_call 126; refine (l1In_any _ _ _ _).mono ?_; rintro e g ⟨rfl, rfl⟩) | (go_at_call 131; refine (R.out _ (i.out _)).mono ?_; rintro e g ⟨rfl, rfl⟩))
             go_ret
             exact ⟨rfl, i.out _⟩
          ·have BA : (k == 4) = false := beq_false_of_ne I;by_cases U : m = 0
           ·subst U;by_cases aA : d.length = 0
            ·have B : d = [] := List.eq_nil_of_length_eq_zero aA;subst B;have c : Hid ((whoB o s && (if true then busyB k 5 l 0 ([] : List Int) else restB k 5 l 0 ([] : List Int))) = true) := by unfold Hid; simp [whoB, busyB, fromB, loadB, j, n, p, q, v, A, D, I]
             rw [c.out];go_enter Tryz.func129, Tryz.ntmps129;go_wp2_with ((go_at_call 126; refine (l1In_any _ _ _ _).mono ?_; rintro e g ⟨rfl, rfl⟩))
             go_ret
             exact ⟨rfl, i.out _⟩
            ·have H : ¬ (d = []) := fun e => aA (by rw [e]; rfl);have F : ¬ ((d.length : Int) = 0) := by omega
             have E : ((d.length : Int) == 0) = false := beq_false_of_ne F;have c : Hid ((whoB o s && (if true then busyB k 5 l 0 d else restB k 5 l 0 d)) = false) := by unfold Hid; simp [whoB, busyB, fromB, loadB, j, n, p, q, v, A, D, I, aA]
             rw [c.out];go_enter Tryz.func129, Tryz.ntmps129;go_wp2_with ((go_at_call 126; refine (l1In_any _ _ _ _).mono ?_; rintro e g ⟨rfl, rfl⟩))
             go_ret
             exact ⟨rfl, i.out _⟩
           ·have yA : (m == 0) = false := beq_false_of_ne U;have c : Hid ((whoB o s && (if true then busyB k 5 l m d else restB k 5 l m d)) = false) := by unfold Hid; simp [whoB, busyB, fromB, loadB, j, n, p, q, v, A, D, I, U]
            rw [c.out];go_enter Tryz.func129, Tryz.ntmps129;go_wp2_with ((go_at_call 126; refine (l1In_any _ _ _ _).mono ?_; rintro e g ⟨rfl, rfl⟩))
            go_ret
            exact ⟨rfl, i.out _⟩
        ·have rA : (f == 5) = false := beq_false_of_ne Y;have c : Hid ((whoB o s && (if true then busyB k f l m d else restB k f l m d)) = false) := by unfold Hid; simp [whoB, busyB, fromB, j, n, p, q, v, A, Y]
         rw [c.out];go_enter Tryz.func129, Tryz.ntmps129;go_wp2_with ((go_at_call 126; refine (l1In_any _ _ _ _).mono ?_; rintro e g ⟨rfl, rfl⟩))
         go_ret
         exact ⟨rfl, i.out _⟩
end Go.Proofs.YtdamokokcdcedaaGreatDoor
