import Derived.Test.YtmaopldahnejdaaGreatDoorH00Box
import Derived.Test.YtmaopldahnejdaaGreatDoorH10
namespace Go.Proofs.YtmaopldahnejdaaGreatDoor
open Go.ChangeShapes Go.WideShapes Go.ChangeAt Go.RowKit
set_option linter.unusedVariables false
set_option maxHeartbeats 8000000 in
theorem specEntryOk_any (o s k f l m : Int) (b : Bool) (d : List Int) (a : Option Addr) (cap : Nat) (w : World) (h : SlRd intR w a d) :
    Calls Tryz.prog 55 #[.agg #[nI o, nI s, .bool b, nI k, nI f, nI l, nI m, sL a d.length cap]] w fun e g => e = .returned (.bool (entB (o, s, b, k, f, l, m, d))) ∧ Bl w g := by
 have i : Hid _ := box_below w;have R : Hid (∀ W, Bl w W → Calls Tryz.prog 103 #[sL a d.length cap] W fun e g => e = .returned (.bool (isL d)) ∧ g = W) := fun W hb => specLineOk_any a d cap W (reads_of (slrd_next h hb));clear h;rw [eb];cases j : betw o (-1) 3
 ·have c : Hid ((whoB o s && (if b then busyB k f l m d else restB k f l m d)) = false) := by unfold Hid; simp [whoB, j]
  rw [c.out];go_enter Tryz.func55, Tryz.ntmps55;go_wp2_with ((go_at_call 58; refine (l1In_any _ _ _ _).mono ?_; rintro e g ⟨rfl, rfl⟩))
  go_ret
  exact ⟨rfl, i.out _⟩
 ·cases n : betw s 0 15
  ·have c : Hid ((whoB o s && (if b then busyB k f l m d else restB k f l m d)) = false) := by unfold Hid; simp [whoB, j, n]
   rw [c.out];go_enter Tryz.func55, Tryz.ntmps55;go_wp2_with ((go_at_call 58; refine (l1In_any _ _ _ _).mono ?_; rintro e g ⟨rfl, rfl⟩))
   go_ret
   exact ⟨rfl, i.out _⟩
  ·by_cases p : 0 ≤ o
   ·by_cases h4 : s = 0
    ·subst h4;cases b
     ·by_cases h5 : k = 0
      ·subst h5;by_cases h6 : f = 0
       ·subst h6;by_cases h7 : l = 0
        ·subst h7;by_cases h8 : m = 0
         ·subst h8;by_cases h9 : d.length = 0
          ·have B : d = [] := List.eq_nil_of_length_eq_zero h9;subst B;have c : Hid ((whoB o 0 && (if false then busyB 0 0 0 0 ([] : List Int) else restB 0 0 0 0 ([] : List Int))) = true) := by unfold Hid; simp [whoB, restB, j, n, p]
           rw [c.out];go_enter Tryz.func55, Tryz.ntmps55;go_wp2_with ((go_at_call 58; refine (l1In_any _ _ _ _).mono ?_; rintro e g ⟨rfl, rfl⟩))
           go_ret
           exact ⟨rfl, i.out _⟩
          ·have H : ¬ (d = []) := fun e => h9 (by rw [e]; rfl);have G : ¬ ((d.length : Int) = 0) := by omega
           have E : ((d.length : Int) == 0) = false := beq_false_of_ne G;have c : Hid ((whoB o 0 && (if false then busyB 0 0 0 0 d else restB 0 0 0 0 d)) = false) := by unfold Hid; simp [whoB, restB, j, n, p, h9]
           rw [c.out];go_enter Tryz.func55, Tryz.ntmps55;go_wp2_with ((go_at_call 58; refine (l1In_any _ _ _ _).mono ?_; rintro e g ⟨rfl, rfl⟩))
           go_ret
           exact ⟨rfl, i.out _⟩
         ·have OA : (m == 0) = false := beq_false_of_ne h8;have c : Hid ((whoB o 0 && (if false then busyB 0 0 0 m d else restB 0 0 0 m d)) = false) := by unfold Hid; simp [whoB, restB, j, n, p, h8]
          rw [c.out];go_enter Tryz.func55, Tryz.ntmps55;go_wp2_with ((go_at_call 58; refine (l1In_any _ _ _ _).mono ?_; rintro e g ⟨rfl, rfl⟩))
          go_ret
          exact ⟨rfl, i.out _⟩
        ·have LA : (l == 0) = false := beq_false_of_ne h7;have c : Hid ((whoB o 0 && (if false then busyB 0 0 l m d else restB 0 0 l m d)) = false) := by unfold Hid; simp [whoB, restB, j, n, p, h7]
         rw [c.out];go_enter Tryz.func55, Tryz.ntmps55;go_wp2_with ((go_at_call 58; refine (l1In_any _ _ _ _).mono ?_; rintro e g ⟨rfl, rfl⟩))
         go_ret
         exact ⟨rfl, i.out _⟩
       ·have NA : (f == 0) = false := beq_false_of_ne h6;have c : Hid ((whoB o 0 && (if false then busyB 0 f l m d else restB 0 f l m d)) = false) := by unfold Hid; simp [whoB, restB, j, n, p, h6]
        rw [c.out];go_enter Tryz.func55, Tryz.ntmps55;go_wp2_with ((go_at_call 58; refine (l1In_any _ _ _ _).mono ?_; rintro e g ⟨rfl, rfl⟩))
        go_ret
        exact ⟨rfl, i.out _⟩
      ·have RA : (k == 0) = false := beq_false_of_ne h5;have c : Hid ((whoB o 0 && (if false then busyB k f l m d else restB k f l m d)) = false) := by unfold Hid; simp [whoB, restB, j, n, p, h5]
       rw [c.out];go_enter Tryz.func55, Tryz.ntmps55;go_wp2_with ((go_at_call 58; refine (l1In_any _ _ _ _).mono ?_; rintro e g ⟨rfl, rfl⟩))
       go_ret
       exact ⟨rfl, i.out _⟩
     ·cases r : betw k 1 4
      ·have c : Hid ((whoB o 0 && (if true then busyB k f l m d else restB k f l m d)) = false) := by unfold Hid; simp [whoB, busyB, j, n, p, r]
       rw [c.out];go_enter Tryz.func55, Tryz.ntmps55;go_wp2_with ((go_at_call 58; refine (l1In_any _ _ _ _).mono ?_; rintro e g ⟨rfl, rfl⟩))
       go_ret
       exact ⟨rfl, i.out _⟩
      ·cases y : betw l 0 4
       ·have c : Hid ((whoB o 0 && (if true then busyB k f l m d else restB k f l m d)) = false) := by unfold Hid; simp [whoB, busyB, j, n, p, r, y]
        rw [c.out];go_enter Tryz.func55, Tryz.ntmps55;go_wp2_with ((go_at_call 58; refine (l1In_any _ _ _ _).mono ?_; rintro e g ⟨rfl, rfl⟩))
        go_ret
        exact ⟨rfl, i.out _⟩
       ·by_cases z : k ≤ 2
        ·cases K : betw f 0 3
         ·have c : Hid ((whoB o 0 && (if true then busyB k f l m d else restB k f l m d)) = false) := by unfold Hid; simp [whoB, busyB, fromB, j, n, p, r, y, z, K]
          rw [c.out];go_enter Tryz.func55, Tryz.ntmps55;go_wp2_with ((go_at_call 58; refine (l1In_any _ _ _ _).mono ?_; rintro e g ⟨rfl, rfl⟩))
          go_ret
          exact ⟨rfl, i.out _⟩
         ·have J : ¬ k = 4 := by omega
          have FA : (k == 4) = false := beq_false_of_ne J;by_cases S : m = 0
          ·subst S;by_cases Z : d.length = 0
           ·have B : d = [] := List.eq_nil_of_length_eq_zero Z;subst B;have c : Hid ((whoB o 0 && (if true then busyB k f l 0 ([] : List Int) else restB k f l 0 ([] : List Int))) = true) := by unfold Hid; simp [whoB, busyB, fromB, loadB, j, n, p, r, y, z, K, J]
            rw [c.out];go_enter Tryz.func55, Tryz.ntmps55;go_wp2_with ((go_at_call 58; refine (l1In_any _ _ _ _).mono ?_; rintro e g ⟨rfl, rfl⟩))
            go_ret
            exact ⟨rfl, i.out _⟩
           ·have H : ¬ (d = []) := fun e => Z (by rw [e]; rfl);have G : ¬ ((d.length : Int) = 0) := by omega
            have E : ((d.length : Int) == 0) = false := beq_false_of_ne G;have c : Hid ((whoB o 0 && (if true then busyB k f l 0 d else restB k f l 0 d)) = false) := by unfold Hid; simp [whoB, busyB, fromB, loadB, j, n, p, r, y, z, K, J, Z]
            rw [c.out];go_enter Tryz.func55, Tryz.ntmps55;go_wp2_with ((go_at_call 58; refine (l1In_any _ _ _ _).mono ?_; rintro e g ⟨rfl, rfl⟩))
            go_ret
            exact ⟨rfl, i.out _⟩
          ·have KA : (m == 0) = false := beq_false_of_ne S;have c : Hid ((whoB o 0 && (if true then busyB k f l m d else restB k f l m d)) = false) := by unfold Hid; simp [whoB, busyB, fromB, loadB, j, n, p, r, y, z, K, J, S]
           rw [c.out];go_enter Tryz.func55, Tryz.ntmps55;go_wp2_with ((go_at_call 58; refine (l1In_any _ _ _ _).mono ?_; rintro e g ⟨rfl, rfl⟩))
           go_ret
           exact ⟨rfl, i.out _⟩
        ·by_cases dA : f = 5
         ·subst dA;by_cases C : l = 0
          ·subst C;have c : Hid ((whoB o 0 && (if true then busyB k 5 0 m d else restB k 5 0 m d)) = false) := by unfold Hid; simp [whoB, busyB, fromB, j, n, p, r, y, z]
           rw [c.out];go_enter Tryz.func55, Tryz.ntmps55;go_wp2_with ((go_at_call 58; refine (l1In_any _ _ _ _).mono ?_; rintro e g ⟨rfl, rfl⟩))
           go_ret
           exact ⟨rfl, i.out _⟩
          ·have IA : (l == 0) = false := beq_false_of_ne C;by_cases I : k = 4
           ·subst I;cases T : betw m 0 3
            ·have c : Hid ((whoB o 0 && (if true then busyB 4 5 l m d else restB 4 5 l m d)) = false) := by unfold Hid; simp [whoB, busyB, fromB, loadB, j, n, p, r, y, z, C, T]
             rw [c.out];go_enter Tryz.func55, Tryz.ntmps55;go_wp2_with ((go_at_call 58; refine (l1In_any _ _ _ _).mono ?_; rintro e g ⟨rfl, rfl⟩))
             go_ret
             exact ⟨rfl, i.out _⟩
            ·cases M : isL d
             ·have c : Hid ((whoB o 0 && (if true then busyB 4 5 l m d else restB 4 5 l m d)) = false) := by unfold Hid; simp [whoB, busyB, fromB, loadB, j, n, p, r, y, z, C, T, M]
              rw [c.out];rw [M] at R;go_enter Tryz.func55, Tryz.ntmps55;go_wp2_with (first | (go_at_call 58; refine (l1In_any _ _ _ _).mono ?_; rintro e g ⟨rfl, rfl⟩) | (go_at_call 103; refine (R.out _ (i.out _)).mono ?_; rintro e g ⟨rfl, rfl⟩))
              go_ret
              exact ⟨rfl, i.out _⟩
             ·have c : Hid ((whoB o 0 && (if true then busyB 4 5 l m d else restB 4 5 l m d)) = true) := by unfold Hid; simp [whoB, busyB, fromB, loadB, j, n, p, r, y, z, C, T, M]
              rw [c.out];rw [M] at R;go_enter Tryz.func55, Tryz.ntmps55;go_wp2_with (first | (go_at_call 58; refine (l1In_any _ _ _ _).mono ?_; rintro e g ⟨rfl, rfl⟩) | (go_at_call 103; refine (R.out _ (i.out _)).mono ?_; rintro e g ⟨rfl, rfl⟩))
              go_ret
              exact ⟨rfl, i.out _⟩
           ·have GA : (k == 4) = false := beq_false_of_ne I;by_cases jA : m = 0
            ·subst jA;by_cases aA : d.length = 0
             ·have B : d = [] := List.eq_nil_of_length_eq_zero aA;subst B;have c : Hid ((whoB o 0 && (if true then busyB k 5 l 0 ([] : List Int) else restB k 5 l 0 ([] : List Int))) = true) := by unfold Hid; simp [whoB, busyB, fromB, loadB, j, n, p, r, y, z, C, I]
              rw [c.out];go_enter Tryz.func55, Tryz.ntmps55;go_wp2_with ((go_at_call 58; refine (l1In_any _ _ _ _).mono ?_; rintro e g ⟨rfl, rfl⟩))
              go_ret
              exact ⟨rfl, i.out _⟩
             ·have H : ¬ (d = []) := fun e => aA (by rw [e]; rfl);have G : ¬ ((d.length : Int) = 0) := by omega
              have E : ((d.length : Int) == 0) = false := beq_false_of_ne G;have c : Hid ((whoB o 0 && (if true then busyB k 5 l 0 d else restB k 5 l 0 d)) = false) := by unfold Hid; simp [whoB, busyB, fromB, loadB, j, n, p, r, y, z, C, I, aA]
              rw [c.out];go_enter Tryz.func55, Tryz.ntmps55;go_wp2_with ((go_at_call 58; refine (l1In_any _ _ _ _).mono ?_; rintro e g ⟨rfl, rfl⟩))
              go_ret
              exact ⟨rfl, i.out _⟩
            ·have JA : (m == 0) = false := beq_false_of_ne jA;have c : Hid ((whoB o 0 && (if true then busyB k 5 l m d else restB k 5 l m d)) = false) := by unfold Hid; simp [whoB, busyB, fromB, loadB, j, n, p, r, y, z, C, I, jA]
             rw [c.out];go_enter Tryz.func55, Tryz.ntmps55;go_wp2_with ((go_at_call 58; refine (l1In_any _ _ _ _).mono ?_; rintro e g ⟨rfl, rfl⟩))
             go_ret
             exact ⟨rfl, i.out _⟩
         ·have BA : (f == 5) = false := beq_false_of_ne dA;have c : Hid ((whoB o 0 && (if true then busyB k f l m d else restB k f l m d)) = false) := by unfold Hid; simp [whoB, busyB, fromB, j, n, p, r, y, z, dA]
          rw [c.out];go_enter Tryz.func55, Tryz.ntmps55;go_wp2_with ((go_at_call 58; refine (l1In_any _ _ _ _).mono ?_; rintro e g ⟨rfl, rfl⟩))
          go_ret
          exact ⟨rfl, i.out _⟩
    ·have MA : (s == 0) = false := beq_false_of_ne h4;have c : Hid ((whoB o s && (if b then busyB k f l m d else restB k f l m d)) = false) := by unfold Hid; simp [whoB, j, n, p, h4]
     rw [c.out];go_enter Tryz.func55, Tryz.ntmps55;go_wp2_with ((go_at_call 58; refine (l1In_any _ _ _ _).mono ?_; rintro e g ⟨rfl, rfl⟩))
     go_ret
     exact ⟨rfl, i.out _⟩
   ·cases b
    ·by_cases cA : k = 0
     ·subst cA;by_cases Y : f = 0
      ·subst Y;by_cases eA : l = 0
       ·subst eA;by_cases U : m = 0
        ·subst U;by_cases X : d.length = 0
         ·have B : d = [] := List.eq_nil_of_length_eq_zero X;subst B;have c : Hid ((whoB o s && (if false then busyB 0 0 0 0 ([] : List Int) else restB 0 0 0 0 ([] : List Int))) = true) := by unfold Hid; simp [whoB, restB, j, n, p]
          rw [c.out];go_enter Tryz.func55, Tryz.ntmps55;go_wp2_with ((go_at_call 58; refine (l1In_any _ _ _ _).mono ?_; rintro e g ⟨rfl, rfl⟩))
          go_ret
          exact ⟨rfl, i.out _⟩
         ·have H : ¬ (d = []) := fun e => X (by rw [e]; rfl);have G : ¬ ((d.length : Int) = 0) := by omega
          have E : ((d.length : Int) == 0) = false := beq_false_of_ne G;have c : Hid ((whoB o s && (if false then busyB 0 0 0 0 d else restB 0 0 0 0 d)) = false) := by unfold Hid; simp [whoB, restB, j, n, p, X]
          rw [c.out];go_enter Tryz.func55, Tryz.ntmps55;go_wp2_with ((go_at_call 58; refine (l1In_any _ _ _ _).mono ?_; rintro e g ⟨rfl, rfl⟩))
          go_ret
          exact ⟨rfl, i.out _⟩
        ·have sA : (m == 0) = false := beq_false_of_ne U;have c : Hid ((whoB o s && (if false then busyB 0 0 0 m d else restB 0 0 0 m d)) = false) := by unfold Hid; simp [whoB, restB, j, n, p, U]
         rw [c.out];go_enter Tryz.func55, Tryz.ntmps55;go_wp2_with ((go_at_call 58; refine (l1In_any _ _ _ _).mono ?_; rintro e g ⟨rfl, rfl⟩))
         go_ret
         exact ⟨rfl, i.out _⟩
       ·have AA : (l == 0) = false := beq_false_of_ne eA;have c : Hid ((whoB o s && (if false then busyB 0 0 l m d else restB 0 0 l m d)) = false) := by unfold Hid; simp [whoB, restB, j, n, p, eA]
        rw [c.out];go_enter Tryz.func55, Tryz.ntmps55;go_wp2_with ((go_at_call 58; refine (l1In_any _ _ _ _).mono ?_; rintro e g ⟨rfl, rfl⟩))
        go_ret
        exact ⟨rfl, i.out _⟩
      ·have DA : (f == 0) = false := beq_false_of_ne Y;have c : Hid ((whoB o s && (if false then busyB 0 f l m d else restB 0 f l m d)) = false) := by unfold Hid; simp [whoB, restB, j, n, p, Y]
       rw [c.out];go_enter Tryz.func55, Tryz.ntmps55;go_wp2_with ((go_at_call 58; refine (l1In_any _ _ _ _).mono ?_; rintro e g ⟨rfl, rfl⟩))
       go_ret
       exact ⟨rfl, i.out _⟩
     ·have EA : (k == 0) = false := beq_false_of_ne cA;have c : Hid ((whoB o s && (if false then busyB k f l m d else restB k f l m d)) = false) := by unfold Hid; simp [whoB, restB, j, n, p, cA]
      rw [c.out];go_enter Tryz.func55, Tryz.ntmps55;go_wp2_with ((go_at_call 58; refine (l1In_any _ _ _ _).mono ?_; rintro e g ⟨rfl, rfl⟩))
      go_ret
      exact ⟨rfl, i.out _⟩
    ·cases q : betw k 1 4
     ·have c : Hid ((whoB o s && (if true then busyB k f l m d else restB k f l m d)) = false) := by unfold Hid; simp [whoB, busyB, j, n, p, q]
      rw [c.out];go_enter Tryz.func55, Tryz.ntmps55;go_wp2_with ((go_at_call 58; refine (l1In_any _ _ _ _).mono ?_; rintro e g ⟨rfl, rfl⟩))
      go_ret
      exact ⟨rfl, i.out _⟩
     ·cases v : betw l 0 4
      ·have c : Hid ((whoB o s && (if true then busyB k f l m d else restB k f l m d)) = false) := by unfold Hid; simp [whoB, busyB, j, n, p, q, v]
       rw [c.out];go_enter Tryz.func55, Tryz.ntmps55;go_wp2_with ((go_at_call 58; refine (l1In_any _ _ _ _).mono ?_; rintro e g ⟨rfl, rfl⟩))
       go_ret
       exact ⟨rfl, i.out _⟩
      ·by_cases A : k ≤ 2
       ·cases L : betw f 0 3
        ·have c : Hid ((whoB o s && (if true then busyB k f l m d else restB k f l m d)) = false) := by unfold Hid; simp [whoB, busyB, fromB, j, n, p, q, v, A, L]
         rw [c.out];go_enter Tryz.func55, Tryz.ntmps55;go_wp2_with ((go_at_call 58; refine (l1In_any _ _ _ _).mono ?_; rintro e g ⟨rfl, rfl⟩))
         go_ret
         exact ⟨rfl, i.out _⟩
        ·have N : ¬ k = 4 := by omega
         have zA : (k == 4) = false := beq_false_of_ne N;by_cases fA : m = 0
         ·subst fA;by_cases kA : d.length = 0
          ·have B : d = [] := List.eq_nil_of_length_eq_zero kA;subst B;have c : Hid ((whoB o s && (if true then busyB k f l 0 ([] : List Int) else restB k f l 0 ([] : List Int))) = true) := by unfold Hid; simp [whoB, busyB, fromB, loadB, j, n, p, q, v, A, L, N]
           rw [c.out];go_enter Tryz.func55, Tryz.ntmps55;go_wp2_with ((go_at_call 58; refine (l1In_any _ _ _ _).mono ?_; rintro e g ⟨rfl, rfl⟩))
           go_ret
           exact ⟨rfl, i.out _⟩
          ·have H : ¬ (d = []) := fun e => kA (by rw [e]; rfl);have G : ¬ ((d.length : Int) = 0) := by omega
           have E : ((d.length : Int) == 0) = false := beq_false_of_ne G;have c : Hid ((whoB o s && (if true then busyB k f l 0 d else restB k f l 0 d)) = false) := by unfold Hid; simp [whoB, busyB, fromB, loadB, j, n, p, q, v, A, L, N, kA]
           rw [c.out];go_enter Tryz.func55, Tryz.ntmps55;go_wp2_with ((go_at_call 58; refine (l1In_any _ _ _ _).mono ?_; rintro e g ⟨rfl, rfl⟩))
           go_ret
           exact ⟨rfl, i.out _⟩
         ·have vA : (m == 0) = false := beq_false_of_ne fA;have c : Hid ((whoB o s && (if true then busyB k f l m d else restB k f l m d)) = false) := by unfold Hid; simp [whoB, busyB, fromB, loadB, j, n, p, q, v, A, L, N, fA]
          rw [c.out];go_enter Tryz.func55, Tryz.ntmps55;go_wp2_with ((go_at_call 58; refine (l1In_any _ _ _ _).mono ?_; rintro e g ⟨rfl, rfl⟩))
          go_ret
          exact ⟨rfl, i.out _⟩
       ·by_cases gA : f = 5
        ·subst gA;by_cases D : l = 0
         ·subst D;have c : Hid ((whoB o s && (if true then busyB k 5 0 m d else restB k 5 0 m d)) = false) := by unfold Hid; simp [whoB, busyB, fromB, j, n, p, q, v, A]
          rw [c.out];go_enter Tryz.func55, Tryz.ntmps55;go_wp2_with ((go_at_call 58; refine (l1In_any _ _ _ _).mono ?_; rintro e g ⟨rfl, rfl⟩))
          go_ret
          exact ⟨rfl, i.out _⟩
         ·have HA : (l == 0) = false := beq_false_of_ne D;by_cases F : k = 4
          ·subst F;cases iA : betw m 0 3
           ·have c : Hid ((whoB o s && (if true then busyB 4 5 l m d else restB 4 5 l m d)) = false) := by unfold Hid; simp [whoB, busyB, fromB, loadB, j, n, p, q, v, A, D, iA]
            rw [c.out];go_enter Tryz.func55, Tryz.ntmps55;go_wp2_with ((go_at_call 58; refine (l1In_any _ _ _ _).mono ?_; rintro e g ⟨rfl, rfl⟩))
            go_ret
            exact ⟨rfl, i.out _⟩
           ·cases O : isL d
            ·have c : Hid ((whoB o s && (if true then busyB 4 5 l m d else restB 4 5 l m d)) = false) := by unfold Hid; simp [whoB, busyB, fromB, loadB, j, n, p, q, v, A, D, iA, O]
             rw [c.out];rw [O] at R;go_enter Tryz.func55, Tryz.ntmps55;go_wp2_with (first | (go_at_call 58; refine (l1In_any _ _ _ _).mono ?_; rintro e g ⟨rfl, rfl⟩) | (go_at_call 103; refine (R.out _ (i.out _)).mono ?_; rintro e g ⟨rfl, rfl⟩))
             go_ret
             exact ⟨rfl, i.out _⟩
            ·have c : Hid ((whoB o s && (if true then busyB 4 5 l m d else restB 4 5 l m d)) = true) := by unfold Hid; simp [whoB, busyB, fromB, loadB, j, n, p, q, v, A, D, iA, O]
             rw [c.out];rw [O] at R;go_enter Tryz.func55, Tryz.ntmps55;go_wp2_with (first | (go_at_call 58; refine (l1In_any _ _ _ _).mono ?_; rintro e g ⟨rfl, rfl⟩) | (go_at_call 103; refine (R.out _ (i.out _)).mono ?_; rintro e g ⟨rfl, rfl⟩))
             go_ret
             exact ⟨rfl, i.out _⟩
          ·have yA : (k == 4) = false := beq_false_of_ne F;by_cases V : m = 0
           ·subst V;by_cases bA : d.length = 0
            ·have B : d = [] := List.eq_nil_of_length_eq_zero bA;subst B;have c : Hid ((whoB o s && (if true then busyB k 5 l 0 ([] : List Int) else restB k 5 l 0 ([] : List Int))) = true) := by unfold Hid; simp [whoB, busyB, fromB, loadB, j, n, p, q, v, A, D, F]
             rw [c.out];go_enter Tryz.func55, Tryz.ntmps55;go_wp2_with ((go_at_call 58; refine (l1In_any _ _ _ _).mono ?_; rintro e g ⟨rfl, rfl⟩))
             go_ret
             exact ⟨rfl, i.out _⟩
            ·have H : ¬ (d = []) := fun e => bA (by rw [e]; rfl);have G : ¬ ((d.length : Int) = 0) := by omega
             have E : ((d.length : Int) == 0) = false := beq_false_of_ne G;have c : Hid ((whoB o s && (if true then busyB k 5 l 0 d else restB k 5 l 0 d)) = false) := by unfold Hid; simp [whoB, busyB, fromB, loadB, j, n, p, q, v, A, D, F, bA]
             rw [c.out];go_enter Tryz.func55, Tryz.ntmps55;go_wp2_with ((go_at_call 58; refine (l1In_any _ _ _ _).mono ?_; rintro e g ⟨rfl, rfl⟩))
             go_ret
             exact ⟨rfl, i.out _⟩
           ·have rA : (m == 0) = false := beq_false_of_ne V;have c : Hid ((whoB o s && (if true then busyB k 5 l m d else restB k 5 l m d)) = false) := by unfold Hid; simp [whoB, busyB, fromB, loadB, j, n, p, q, v, A, D, F, V]
            rw [c.out];go_enter Tryz.func55, Tryz.ntmps55;go_wp2_with ((go_at_call 58; refine (l1In_any _ _ _ _).mono ?_; rintro e g ⟨rfl, rfl⟩))
            go_ret
            exact ⟨rfl, i.out _⟩
        ·have CA : (f == 5) = false := beq_false_of_ne gA;have c : Hid ((whoB o s && (if true then busyB k f l m d else restB k f l m d)) = false) := by unfold Hid; simp [whoB, busyB, fromB, j, n, p, q, v, A, gA]
         rw [c.out];go_enter Tryz.func55, Tryz.ntmps55;go_wp2_with ((go_at_call 58; refine (l1In_any _ _ _ _).mono ?_; rintro e g ⟨rfl, rfl⟩))
         go_ret
         exact ⟨rfl, i.out _⟩
end Go.Proofs.YtmaopldahnejdaaGreatDoor
