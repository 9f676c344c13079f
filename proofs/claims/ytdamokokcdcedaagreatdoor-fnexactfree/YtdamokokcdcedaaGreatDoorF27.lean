import Derived.Test.YtdamokokcdcedaaGreatDoorF00Box
import Derived.Test.YtdamokokcdcedaaGreatDoorF26
namespace Go.Proofs.YtdamokokcdcedaaGreatDoor
open Go.ChangeShapes Go.WideShapes Go.ChangeAt Go.RowKit
set_option linter.unusedVariables false
set_option maxHeartbeats 8000000 in
theorem specEntryOk_any (o s k f l m : Int) (b : Bool) (d : List Int) (a : Option Addr) (cap : Nat) (w : World) (h : SlRd intR w a d) :
    Calls Tryz.prog 129 #[.agg #[nI o, nI s, .bool b, nI k, nI f, nI l, nI m, sL a d.length cap]] w fun e g => e = .returned (.bool (entB (o, s, b, k, f, l, m, d))) ∧ Bl w g := by
 have i : Hid _ := box_below w;have R : Hid _ := fun (W : World) (hb : Bl w W) => specLineOk_any a d cap W (reads_of (slrd_next h hb));clear h;rw [eb];cases j : betw o (-1) 3
 ·have c : Hid ((whoB o s && (if b then busyB k f l m d else restB k f l m d)) = false) := by unfold Hid; simp [whoB, j]
  rw [c.out];go_enter Tryz.func129, Tryz.ntmps129;go_wp2_with ((go_at_call 126; refine (l1In_any _ _ _ _).mono ?_; rintro e g ⟨rfl, rfl⟩))
  go_ret
  exact ⟨rfl, i.out _⟩
 ·cases n : betw s 0 15
  ·have c : Hid ((whoB o s && (if b then busyB k f l m d else restB k f l m d)) = false) := by unfold Hid; simp [whoB, j, n]
   rw [c.out];go_enter Tryz.func129, Tryz.ntmps129;go_wp2_with ((go_at_call 126; refine (l1In_any _ _ _ _).mono ?_; rintro e g ⟨rfl, rfl⟩))
   go_ret
   exact ⟨rfl, i.out _⟩
  ·by_cases p : 0 ≤ o
   ·by_cases h4 : s = 0
    ·subst h4;cases b
     ·by_cases h5 : k = 0
      ·subst h5;by_cases h6 : f = 0
       ·subst h6;by_cases h7 : l = 0
        ·subst h7;by_cases h8 : m = 0
         ·subst h8;by_cases h9 : d.length = 0
          ·have B : d = [] := List.eq_nil_of_length_eq_zero h9;subst B;have c : Hid ((whoB o 0 && (if false then busyB 0 0 0 0 ([] : List Int) else restB 0 0 0 0 ([] : List Int))) = true) := by unfold Hid; simp [whoB, restB, j, n, p]
           rw [c.out];go_enter Tryz.func129, Tryz.ntmps129;go_wp2_with ((go_at_call 126; refine (l1In_any _ _ _ _).mono ?_; rintro e g ⟨rfl, rfl⟩))
           go_ret
           exact ⟨rfl, i.out _⟩
          ·have I : ¬ (d = []) := fun e => h9 (by rw [e]; rfl);have E : ¬ ((d.length : Int) = 0) := by omega
           have F : ((d.length : Int) == 0) = false := beq_false_of_ne E;have c : Hid ((whoB o 0 && (if false then busyB 0 0 0 0 d else restB 0 0 0 0 d)) = false) := by unfold Hid; simp [whoB, restB, j, n, p, h9]
           rw [c.out];go_enter Tryz.func129, Tryz.ntmps129;go_wp2_with ((go_at_call 126; refine (l1In_any _ _ _ _).mono ?_; rintro e g ⟨rfl, rfl⟩))
           go_ret
           exact ⟨rfl, i.out _⟩
         ·have RA : (m == 0) = false := beq_false_of_ne h8;have c : Hid ((whoB o 0 && (if false then busyB 0 0 0 m d else restB 0 0 0 m d)) = false) := by unfold Hid; simp [whoB, restB, j, n, p, h8]
          rw [c.out];go_enter Tryz.func129, Tryz.ntmps129;go_wp2_with ((go_at_call 126; refine (l1In_any _ _ _ _).mono ?_; rintro e g ⟨rfl, rfl⟩))
          go_ret
          exact ⟨rfl, i.out _⟩
        ·have LA : (l == 0) = false := beq_false_of_ne h7;have c : Hid ((whoB o 0 && (if false then busyB 0 0 l m d else restB 0 0 l m d)) = false) := by unfold Hid; simp [whoB, restB, j, n, p, h7]
         rw [c.out];go_enter Tryz.func129, Tryz.ntmps129;go_wp2_with ((go_at_call 126; refine (l1In_any _ _ _ _).mono ?_; rintro e g ⟨rfl, rfl⟩))
         go_ret
         exact ⟨rfl, i.out _⟩
       ·have NA : (f == 0) = false := beq_false_of_ne h6;have c : Hid ((whoB o 0 && (if false then busyB 0 f l m d else restB 0 f l m d)) = false) := by unfold Hid; simp [whoB, restB, j, n, p, h6]
        rw [c.out];go_enter Tryz.func129, Tryz.ntmps129;go_wp2_with ((go_at_call 126; refine (l1In_any _ _ _ _).mono ?_; rintro e g ⟨rfl, rfl⟩))
        go_ret
        exact ⟨rfl, i.out _⟩
      ·have MA : (k == 0) = false := beq_false_of_ne h5;have c : Hid ((whoB o 0 && (if false then busyB k f l m d else restB k f l m d)) = false) := by unfold Hid; simp [whoB, restB, j, n, p, h5]
       rw [c.out];go_enter Tryz.func129, Tryz.ntmps129;go_wp2_with ((go_at_call 126; refine (l1In_any _ _ _ _).mono ?_; rintro e g ⟨rfl, rfl⟩))
       go_ret
       exact ⟨rfl, i.out _⟩
     ·cases r : betw k 1 4
      ·have c : Hid ((whoB o 0 && (if true then busyB k f l m d else restB k f l m d)) = false) := by unfold Hid; simp [whoB, busyB, j, n, p, r]
       rw [c.out];go_enter Tryz.func129, Tryz.ntmps129;go_wp2_with ((go_at_call 126; refine (l1In_any _ _ _ _).mono ?_; rintro e g ⟨rfl, rfl⟩))
       go_ret
       exact ⟨rfl, i.out _⟩
      ·cases v : betw l 0 4
       ·have c : Hid ((whoB o 0 && (if true then busyB k f l m d else restB k f l m d)) = false) := by unfold Hid; simp [whoB, busyB, j, n, p, r, v]
        rw [c.out];go_enter Tryz.func129, Tryz.ntmps129;go_wp2_with ((go_at_call 126; refine (l1In_any _ _ _ _).mono ?_; rintro e g ⟨rfl, rfl⟩))
        go_ret
        exact ⟨rfl, i.out _⟩
       ·by_cases A : k ≤ 2
        ·cases K : betw f 0 3
         ·have c : Hid ((whoB o 0 && (if true then busyB k f l m d else restB k f l m d)) = false) := by unfold Hid; simp [whoB, busyB, fromB, j, n, p, r, v, A, K]
          rw [c.out];go_enter Tryz.func129, Tryz.ntmps129;go_wp2_with ((go_at_call 126; refine (l1In_any _ _ _ _).mono ?_; rintro e g ⟨rfl, rfl⟩))
          go_ret
          exact ⟨rfl, i.out _⟩
         ·have M : ¬ k = 4 := by omega
          have EA : (k == 4) = false := beq_false_of_ne M;by_cases iA : m = 0
          ·subst iA;by_cases U : d.length = 0
           ·have B : d = [] := List.eq_nil_of_length_eq_zero U;subst B;have c : Hid ((whoB o 0 && (if true then busyB k f l 0 ([] : List Int) else restB k f l 0 ([] : List Int))) = true) := by unfold Hid; simp [whoB, busyB, fromB, loadB, j, n, p, r, v, A, K, M]
            rw [c.out];go_enter Tryz.func129, Tryz.ntmps129;go_wp2_with ((go_at_call 126; refine (l1In_any _ _ _ _).mono ?_; rintro e g ⟨rfl, rfl⟩))
            go_ret
            exact ⟨rfl, i.out _⟩
           ·have I : ¬ (d = []) := fun e => U (by rw [e]; rfl);have E : ¬ ((d.length : Int) = 0) := by omega
            have F : ((d.length : Int) == 0) = false := beq_false_of_ne E;have c : Hid ((whoB o 0 && (if true then busyB k f l 0 d else restB k f l 0 d)) = false) := by unfold Hid; simp [whoB, busyB, fromB, loadB, j, n, p, r, v, A, K, M, U]
            rw [c.out];go_enter Tryz.func129, Tryz.ntmps129;go_wp2_with ((go_at_call 126; refine (l1In_any _ _ _ _).mono ?_; rintro e g ⟨rfl, rfl⟩))
            go_ret
            exact ⟨rfl, i.out _⟩
          ·have yA : (m == 0) = false := beq_false_of_ne iA;have c : Hid ((whoB o 0 && (if true then busyB k f l m d else restB k f l m d)) = false) := by unfold Hid; simp [whoB, busyB, fromB, loadB, j, n, p, r, v, A, K, M, iA]
           rw [c.out];go_enter Tryz.func129, Tryz.ntmps129;go_wp2_with ((go_at_call 126; refine (l1In_any _ _ _ _).mono ?_; rintro e g ⟨rfl, rfl⟩))
           go_ret
           exact ⟨rfl, i.out _⟩
        ·by_cases T : f = 5
         ·subst T;by_cases D : l = 0
          ·subst D;have c : Hid ((whoB o 0 && (if true then busyB k 5 0 m d else restB k 5 0 m d)) = false) := by unfold Hid; simp [whoB, busyB, fromB, j, n, p, r, v, A]
           rw [c.out];go_enter Tryz.func129, Tryz.ntmps129;go_wp2_with ((go_at_call 126; refine (l1In_any _ _ _ _).mono ?_; rintro e g ⟨rfl, rfl⟩))
           go_ret
           exact ⟨rfl, i.out _⟩
          ·have JA : (l == 0) = false := beq_false_of_ne D;by_cases G : k = 4
           ·subst G;cases gA : betw m 0 3
            ·have c : Hid ((whoB o 0 && (if true then busyB 4 5 l m d else restB 4 5 l m d)) = false) := by unfold Hid; simp [whoB, busyB, fromB, loadB, j, n, p, r, v, A, D, gA]
             rw [c.out];go_enter Tryz.func129, Tryz.ntmps129;go_wp2_with ((go_at_call 126; refine (l1In_any _ _ _ _).mono ?_; rintro e g ⟨rfl, rfl⟩))
             go_ret
             exact ⟨rfl, i.out _⟩
            ·cases O : isL d
             ·have c : Hid ((whoB o 0 && (if true then busyB 4 5 l m d else restB 4 5 l m d)) = false) := by unfold Hid; simp [whoB, busyB, fromB, loadB, j, n, p, r, v, A, D, gA, O]
              rw [c.out];rw [O] at R;go_enter Tryz.func129, Tryz.ntmps129;go_wp2_with (first | (go_at_call 126; refine (l1In_any _ _ _ _).mono ?_; rintro e g ⟨rfl, rfl⟩) | (go_at_call 131; refine (R.out _ (i.out _)).mono ?_; rintro e g ⟨rfl, rfl⟩))
              go_ret
              exact ⟨rfl, i.out _⟩
             ·have c : Hid ((whoB o 0 && (if true then busyB 4 5 l m d else restB 4 5 l m d)) = true) := by unfold Hid; simp [whoB, busyB, fromB, loadB, j, n, p, r, v, A, D, gA, O]
              rw [c.out];rw [O] at R;go_enter Tryz.func129, Tryz.ntmps129;go_wp2_with (first | (go_at_call 126; refine (l1In_any _ _ _ _).mono ?_; rintro e g ⟨rfl, rfl⟩) | (go_at_call 131; refine (R.out _ (i.out _)).mono ?_; rintro e g ⟨rfl, rfl⟩))
              go_ret
              exact ⟨rfl, i.out _⟩
           ·have sA : (k == 4) = false := beq_false_of_ne G;by_cases bA : m = 0
            ·subst bA;by_cases kA : d.length = 0
             ·have B : d = [] := List.eq_nil_of_length_eq_zero kA;subst B;have c : Hid ((whoB o 0 && (if true then busyB k 5 l 0 ([] : List Int) else restB k 5 l 0 ([] : List Int))) = true) := by unfold Hid; simp [whoB, busyB, fromB, loadB, j, n, p, r, v, A, D, G]
              rw [c.out];go_enter Tryz.func129, Tryz.ntmps129;go_wp2_with ((go_at_call 126; refine (l1In_any _ _ _ _).mono ?_; rintro e g ⟨rfl, rfl⟩))
              go_ret
              exact ⟨rfl, i.out _⟩
             ·have I : ¬ (d = []) := fun e => kA (by rw [e]; rfl);have E : ¬ ((d.length : Int) = 0) := by omega
              have F : ((d.length : Int) == 0) = false := beq_false_of_ne E;have c : Hid ((whoB o 0 && (if true then busyB k 5 l 0 d else restB k 5 l 0 d)) = false) := by unfold Hid; simp [whoB, busyB, fromB, loadB, j, n, p, r, v, A, D, G, kA]
              rw [c.out];go_enter Tryz.func129, Tryz.ntmps129;go_wp2_with ((go_at_call 126; refine (l1In_any _ _ _ _).mono ?_; rintro e g ⟨rfl, rfl⟩))
              go_ret
              exact ⟨rfl, i.out _⟩
            ·have BA : (m == 0) = false := beq_false_of_ne bA;have c : Hid ((whoB o 0 && (if true then busyB k 5 l m d else restB k 5 l m d)) = false) := by unfold Hid; simp [whoB, busyB, fromB, loadB, j, n, p, r, v, A, D, G, bA]
             rw [c.out];go_enter Tryz.func129, Tryz.ntmps129;go_wp2_with ((go_at_call 126; refine (l1In_any _ _ _ _).mono ?_; rintro e g ⟨rfl, rfl⟩))
             go_ret
             exact ⟨rfl, i.out _⟩
         ·have rA : (f == 5) = false := beq_false_of_ne T;have c : Hid ((whoB o 0 && (if true then busyB k f l m d else restB k f l m d)) = false) := by unfold Hid; simp [whoB, busyB, fromB, j, n, p, r, v, A, T]
          rw [c.out];go_enter Tryz.func129, Tryz.ntmps129;go_wp2_with ((go_at_call 126; refine (l1In_any _ _ _ _).mono ?_; rintro e g ⟨rfl, rfl⟩))
          go_ret
          exact ⟨rfl, i.out _⟩
    ·have OA : (s == 0) = false := beq_false_of_ne h4;have c : Hid ((whoB o s && (if b then busyB k f l m d else restB k f l m d)) = false) := by unfold Hid; simp [whoB, j, n, p, h4]
     rw [c.out];go_enter Tryz.func129, Tryz.ntmps129;go_wp2_with ((go_at_call 126; refine (l1In_any _ _ _ _).mono ?_; rintro e g ⟨rfl, rfl⟩))
     go_ret
     exact ⟨rfl, i.out _⟩
   ·cases b
    ·by_cases V : k = 0
     ·subst V;by_cases Z : f = 0
      ·subst Z;by_cases cA : l = 0
       ·subst cA;by_cases eA : m = 0
        ·subst eA;by_cases dA : d.length = 0
         ·have B : d = [] := List.eq_nil_of_length_eq_zero dA;subst B;have c : Hid ((whoB o s && (if false then busyB 0 0 0 0 ([] : List Int) else restB 0 0 0 0 ([] : List Int))) = true) := by unfold Hid; simp [whoB, restB, j, n, p]
          rw [c.out];go_enter Tryz.func129, Tryz.ntmps129;go_wp2_with ((go_at_call 126; refine (l1In_any _ _ _ _).mono ?_; rintro e g ⟨rfl, rfl⟩))
          go_ret
          exact ⟨rfl, i.out _⟩
         ·have I : ¬ (d = []) := fun e => dA (by rw [e]; rfl);have E : ¬ ((d.length : Int) = 0) := by omega
          have F : ((d.length : Int) == 0) = false := beq_false_of_ne E;have c : Hid ((whoB o s && (if false then busyB 0 0 0 0 d else restB 0 0 0 0 d)) = false) := by unfold Hid; simp [whoB, restB, j, n, p, dA]
          rw [c.out];go_enter Tryz.func129, Tryz.ntmps129;go_wp2_with ((go_at_call 126; refine (l1In_any _ _ _ _).mono ?_; rintro e g ⟨rfl, rfl⟩))
          go_ret
          exact ⟨rfl, i.out _⟩
        ·have CA : (m == 0) = false := beq_false_of_ne eA;have c : Hid ((whoB o s && (if false then busyB 0 0 0 m d else restB 0 0 0 m d)) = false) := by unfold Hid; simp [whoB, restB, j, n, p, eA]
         rw [c.out];go_enter Tryz.func129, Tryz.ntmps129;go_wp2_with ((go_at_call 126; refine (l1In_any _ _ _ _).mono ?_; rintro e g ⟨rfl, rfl⟩))
         go_ret
         exact ⟨rfl, i.out _⟩
       ·have KA : (l == 0) = false := beq_false_of_ne cA;have c : Hid ((whoB o s && (if false then busyB 0 0 l m d else restB 0 0 l m d)) = false) := by unfold Hid; simp [whoB, restB, j, n, p, cA]
        rw [c.out];go_enter Tryz.func129, Tryz.ntmps129;go_wp2_with ((go_at_call 126; refine (l1In_any _ _ _ _).mono ?_; rintro e g ⟨rfl, rfl⟩))
        go_ret
        exact ⟨rfl, i.out _⟩
      ·have AA : (f == 0) = false := beq_false_of_ne Z;have c : Hid ((whoB o s && (if false then busyB 0 f l m d else restB 0 f l m d)) = false) := by unfold Hid; simp [whoB, restB, j, n, p, Z]
       rw [c.out];go_enter Tryz.func129, Tryz.ntmps129;go_wp2_with ((go_at_call 126; refine (l1In_any _ _ _ _).mono ?_; rintro e g ⟨rfl, rfl⟩))
       go_ret
       exact ⟨rfl, i.out _⟩
     ·have zA : (k == 0) = false := beq_false_of_ne V;have c : Hid ((whoB o s && (if false then busyB k f l m d else restB k f l m d)) = false) := by unfold Hid; simp [whoB, restB, j, n, p, V]
      rw [c.out];go_enter Tryz.func129, Tryz.ntmps129;go_wp2_with ((go_at_call 126; refine (l1In_any _ _ _ _).mono ?_; rintro e g ⟨rfl, rfl⟩))
      go_ret
      exact ⟨rfl, i.out _⟩
    ·cases q : betw k 1 4
     ·have c : Hid ((whoB o s && (if true then busyB k f l m d else restB k f l m d)) = false) := by unfold Hid; simp [whoB, busyB, j, n, p, q]
      rw [c.out];go_enter Tryz.func129, Tryz.ntmps129;go_wp2_with ((go_at_call 126; refine (l1In_any _ _ _ _).mono ?_; rintro e g ⟨rfl, rfl⟩))
      go_ret
      exact ⟨rfl, i.out _⟩
     ·cases y : betw l 0 4
      ·have c : Hid ((whoB o s && (if true then busyB k f l m d else restB k f l m d)) = false) := by unfold Hid; simp [whoB, busyB, j, n, p, q, y]
       rw [c.out];go_enter Tryz.func129, Tryz.ntmps129;go_wp2_with ((go_at_call 126; refine (l1In_any _ _ _ _).mono ?_; rintro e g ⟨rfl, rfl⟩))
       go_ret
       exact ⟨rfl, i.out _⟩
      ·by_cases z : k ≤ 2
       ·cases J : betw f 0 3
        ·have c : Hid ((whoB o s && (if true then busyB k f l m d else restB k f l m d)) = false) := by unfold Hid; simp [whoB, busyB, fromB, j, n, p, q, y, z, J]
         rw [c.out];go_enter Tryz.func129, Tryz.ntmps129;go_wp2_with ((go_at_call 126; refine (l1In_any _ _ _ _).mono ?_; rintro e g ⟨rfl, rfl⟩))
         go_ret
         exact ⟨rfl, i.out _⟩
        ·have N : ¬ k = 4 := by omega
         have DA : (k == 4) = false := beq_false_of_ne N;by_cases jA : m = 0
         ·subst jA;by_cases aA : d.length = 0
          ·have B : d = [] := List.eq_nil_of_length_eq_zero aA;subst B;have c : Hid ((whoB o s && (if true then busyB k f l 0 ([] : List Int) else restB k f l 0 ([] : List Int))) = true) := by unfold Hid; simp [whoB, busyB, fromB, loadB, j, n, p, q, y, z, J, N]
           rw [c.out];go_enter Tryz.func129, Tryz.ntmps129;go_wp2_with ((go_at_call 126; refine (l1In_any _ _ _ _).mono ?_; rintro e g ⟨rfl, rfl⟩))
           go_ret
           exact ⟨rfl, i.out _⟩
          ·have I : ¬ (d = []) := fun e => aA (by rw [e]; rfl);have E : ¬ ((d.length : Int) = 0) := by omega
           have F : ((d.length : Int) == 0) = false := beq_false_of_ne E;have c : Hid ((whoB o s && (if true then busyB k f l 0 d else restB k f l 0 d)) = false) := by unfold Hid; simp [whoB, busyB, fromB, loadB, j, n, p, q, y, z, J, N, aA]
           rw [c.out];go_enter Tryz.func129, Tryz.ntmps129;go_wp2_with ((go_at_call 126; refine (l1In_any _ _ _ _).mono ?_; rintro e g ⟨rfl, rfl⟩))
           go_ret
           exact ⟨rfl, i.out _⟩
         ·have IA : (m == 0) = false := beq_false_of_ne jA;have c : Hid ((whoB o s && (if true then busyB k f l m d else restB k f l m d)) = false) := by unfold Hid; simp [whoB, busyB, fromB, loadB, j, n, p, q, y, z, J, N, jA]
          rw [c.out];go_enter Tryz.func129, Tryz.ntmps129;go_wp2_with ((go_at_call 126; refine (l1In_any _ _ _ _).mono ?_; rintro e g ⟨rfl, rfl⟩))
          go_ret
          exact ⟨rfl, i.out _⟩
       ·by_cases X : f = 5
        ·subst X;by_cases C : l = 0
         ·subst C;have c : Hid ((whoB o s && (if true then busyB k 5 0 m d else restB k 5 0 m d)) = false) := by unfold Hid; simp [whoB, busyB, fromB, j, n, p, q, y, z]
          rw [c.out];go_enter Tryz.func129, Tryz.ntmps129;go_wp2_with ((go_at_call 126; refine (l1In_any _ _ _ _).mono ?_; rintro e g ⟨rfl, rfl⟩))
          go_ret
          exact ⟨rfl, i.out _⟩
         ·have vA : (l == 0) = false := beq_false_of_ne C;by_cases H : k = 4
          ·subst H;cases Y : betw m 0 3
           ·have c : Hid ((whoB o s && (if true then busyB 4 5 l m d else restB 4 5 l m d)) = false) := by unfold Hid; simp [whoB, busyB, fromB, loadB, j, n, p, q, y, z, C, Y]
            rw [c.out];go_enter Tryz.func129, Tryz.ntmps129;go_wp2_with ((go_at_call 126; refine (l1In_any _ _ _ _).mono ?_; rintro e g ⟨rfl, rfl⟩))
            go_ret
            exact ⟨rfl, i.out _⟩
           ·cases L : isL d
            ·have c : Hid ((whoB o s && (if true then busyB 4 5 l m d else restB 4 5 l m d)) = false) := by unfold Hid; simp [whoB, busyB, fromB, loadB, j, n, p, q, y, z, C, Y, L]
             rw [c.out];rw [L] at R;go_enter Tryz.func129, Tryz.ntmps129;go_wp2_with (first | (go_at_call 126; refine (l1In_any _ _ _ _).mono ?_; rintro e g ⟨rfl, rfl⟩) | (go_at_call 131; refine (R.out _ (i.out _)).mono ?_; rintro e g ⟨rfl, rfl⟩))
             go_ret
             exact ⟨rfl, i.out _⟩
            ·have c : Hid ((whoB o s && (if true then busyB 4 5 l m d else restB 4 5 l m d)) = true) := by unfold Hid; simp [whoB, busyB, fromB, loadB, j, n, p, q, y, z, C, Y, L]
             rw [c.out];rw [L] at R;go_enter Tryz.func129, Tryz.ntmps129;go_wp2_with (first | (go_at_call 126; refine (l1In_any _ _ _ _).mono ?_; rintro e g ⟨rfl, rfl⟩) | (go_at_call 131; refine (R.out _ (i.out _)).mono ?_; rintro e g ⟨rfl, rfl⟩))
             go_ret
             exact ⟨rfl, i.out _⟩
          ·have FA : (k == 4) = false := beq_false_of_ne H;by_cases fA : m = 0
           ·subst fA;by_cases S : d.length = 0
            ·have B : d = [] := List.eq_nil_of_length_eq_zero S;subst B;have c : Hid ((whoB o s && (if true then busyB k 5 l 0 ([] : List Int) else restB k 5 l 0 ([] : List Int))) = true) := by unfold Hid; simp [whoB, busyB, fromB, loadB, j, n, p, q, y, z, C, H]
             rw [c.out];go_enter Tryz.func129, Tryz.ntmps129;go_wp2_with ((go_at_call 126; refine (l1In_any _ _ _ _).mono ?_; rintro e g ⟨rfl, rfl⟩))
             go_ret
             exact ⟨rfl, i.out _⟩
            ·have I : ¬ (d = []) := fun e => S (by rw [e]; rfl);have E : ¬ ((d.length : Int) = 0) := by omega
             have F : ((d.length : Int) == 0) = false := beq_false_of_ne E;have c : Hid ((whoB o s && (if true then busyB k 5 l 0 d else restB k 5 l 0 d)) = false) := by unfold Hid; simp [whoB, busyB, fromB, loadB, j, n, p, q, y, z, C, H, S]
             rw [c.out];go_enter Tryz.func129, Tryz.ntmps129;go_wp2_with ((go_at_call 126; refine (l1In_any _ _ _ _).mono ?_; rintro e g ⟨rfl, rfl⟩))
             go_ret
             exact ⟨rfl, i.out _⟩
           ·have GA : (m == 0) = false := beq_false_of_ne fA;have c : Hid ((whoB o s && (if true then busyB k 5 l m d else restB k 5 l m d)) = false) := by unfold Hid; simp [whoB, busyB, fromB, loadB, j, n, p, q, y, z, C, H, fA]
            rw [c.out];go_enter Tryz.func129, Tryz.ntmps129;go_wp2_with ((go_at_call 126; refine (l1In_any _ _ _ _).mono ?_; rintro e g ⟨rfl, rfl⟩))
            go_ret
            exact ⟨rfl, i.out _⟩
        ·have HA : (f == 5) = false := beq_false_of_ne X;have c : Hid ((whoB o s && (if true then busyB k f l m d else restB k f l m d)) = false) := by unfold Hid; simp [whoB, busyB, fromB, j, n, p, q, y, z, X]
         rw [c.out];go_enter Tryz.func129, Tryz.ntmps129;go_wp2_with ((go_at_call 126; refine (l1In_any _ _ _ _).mono ?_; rintro e g ⟨rfl, rfl⟩))
         go_ret
         exact ⟨rfl, i.out _⟩
end Go.Proofs.YtdamokokcdcedaaGreatDoor
