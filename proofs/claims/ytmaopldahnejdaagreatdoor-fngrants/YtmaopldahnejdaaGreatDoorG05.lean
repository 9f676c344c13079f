import Derived.Test.YtmaopldahnejdaaGreatDoorG00Box
import Derived.Test.YtmaopldahnejdaaGreatDoorG04
namespace Go.Proofs.YtmaopldahnejdaaGreatDoor
open Go.ChangeShapes Go.WideShapes Go.ChangeAt Go.RowKit
set_option linter.unusedVariables false
set_option maxHeartbeats 8000000 in
theorem zFX (o s k f l m : Int) (b : Bool) (d : List Int) (a : Option Addr) (cap : Nat) (w : World) (h : zBv zBf w a d) :
    Calls Tryz.prog 55 #[.agg #[nI o, nI s, .bool b, nI k, nI f, nI l, nI m, sL a d.length cap]] w fun e g => e = .returned (.bool (zBR (o, s, b, k, f, l, m, d))) ∧ Bl w g := by
 have i : Hid _ := zAg w;have R : Hid (∀ W, Bl w W → Calls Tryz.prog 103 #[sL a d.length cap] W fun e g => e = .returned (.bool (isL d)) ∧ g = W) := fun W hb => zCJ a d cap W (zAM (zAt h hb));clear h;rw [eb];cases j : zA6 o (-1) 3
 ·have c : Hid ((zAI o s && (if b then zAA k f l m d else zAY k f l m d)) = false) := by unfold Hid; simp [zAI, j]
  rw [c.out];go_enter Tryz.func55, Tryz.ntmps55;go_wp2_with ((go_at_call 58; refine (zAx _ _ _ _).mono ?_; rintro e g ⟨rfl, rfl⟩))
  go_ret
  exact ⟨rfl, i.out _⟩
 ·cases n : zA6 s 0 15
  ·have c : Hid ((zAI o s && (if b then zAA k f l m d else zAY k f l m d)) = false) := by unfold Hid; simp [zAI, j, n]
   rw [c.out];go_enter Tryz.func55, Tryz.ntmps55;go_wp2_with ((go_at_call 58; refine (zAx _ _ _ _).mono ?_; rintro e g ⟨rfl, rfl⟩))
   go_ret
   exact ⟨rfl, i.out _⟩
  ·by_cases p : 0 ≤ o
   ·by_cases h4 : s = 0
    ·subst h4;cases b
     ·by_cases h5 : k = 0
      ·subst h5;by_cases h6 : f = 0
       ·subst h6;by_cases h7 : l = 0
        ·subst h7;by_cases h8 : m = 0
         ·subst h8;by_cases h9 : d.length = 0
          ·have B : d = [] := List.eq_nil_of_length_eq_zero h9;subst B;have c : Hid ((zAI o 0 && (if false then zAA 0 0 0 0 ([] : List Int) else zAY 0 0 0 0 ([] : List Int))) = true) := by unfold Hid; simp [zAI, zAY, j, n, p]
           rw [c.out];go_enter Tryz.func55, Tryz.ntmps55;go_wp2_with ((go_at_call 58; refine (zAx _ _ _ _).mono ?_; rintro e g ⟨rfl, rfl⟩))
           go_ret
           exact ⟨rfl, i.out _⟩
          ·have F : ¬ (d = []) := fun e => h9 (by rw [e]; rfl);have H : ¬ ((d.length : Int) = 0) := by omega
           have G : ((d.length : Int) == 0) = false := beq_false_of_ne H;have c : Hid ((zAI o 0 && (if false then zAA 0 0 0 0 d else zAY 0 0 0 0 d)) = false) := by unfold Hid; simp [zAI, zAY, j, n, p, h9]
           rw [c.out];go_enter Tryz.func55, Tryz.ntmps55;go_wp2_with ((go_at_call 58; refine (zAx _ _ _ _).mono ?_; rintro e g ⟨rfl, rfl⟩))
           go_ret
           exact ⟨rfl, i.out _⟩
         ·have MA : (m == 0) = false := beq_false_of_ne h8;have c : Hid ((zAI o 0 && (if false then zAA 0 0 0 m d else zAY 0 0 0 m d)) = false) := by unfold Hid; simp [zAI, zAY, j, n, p, h8]
          rw [c.out];go_enter Tryz.func55, Tryz.ntmps55;go_wp2_with ((go_at_call 58; refine (zAx _ _ _ _).mono ?_; rintro e g ⟨rfl, rfl⟩))
          go_ret
          exact ⟨rfl, i.out _⟩
        ·have RA : (l == 0) = false := beq_false_of_ne h7;have c : Hid ((zAI o 0 && (if false then zAA 0 0 l m d else zAY 0 0 l m d)) = false) := by unfold Hid; simp [zAI, zAY, j, n, p, h7]
         rw [c.out];go_enter Tryz.func55, Tryz.ntmps55;go_wp2_with ((go_at_call 58; refine (zAx _ _ _ _).mono ?_; rintro e g ⟨rfl, rfl⟩))
         go_ret
         exact ⟨rfl, i.out _⟩
       ·have NA : (f == 0) = false := beq_false_of_ne h6;have c : Hid ((zAI o 0 && (if false then zAA 0 f l m d else zAY 0 f l m d)) = false) := by unfold Hid; simp [zAI, zAY, j, n, p, h6]
        rw [c.out];go_enter Tryz.func55, Tryz.ntmps55;go_wp2_with ((go_at_call 58; refine (zAx _ _ _ _).mono ?_; rintro e g ⟨rfl, rfl⟩))
        go_ret
        exact ⟨rfl, i.out _⟩
      ·have OA : (k == 0) = false := beq_false_of_ne h5;have c : Hid ((zAI o 0 && (if false then zAA k f l m d else zAY k f l m d)) = false) := by unfold Hid; simp [zAI, zAY, j, n, p, h5]
       rw [c.out];go_enter Tryz.func55, Tryz.ntmps55;go_wp2_with ((go_at_call 58; refine (zAx _ _ _ _).mono ?_; rintro e g ⟨rfl, rfl⟩))
       go_ret
       exact ⟨rfl, i.out _⟩
     ·cases q : zA6 k 1 4
      ·have c : Hid ((zAI o 0 && (if true then zAA k f l m d else zAY k f l m d)) = false) := by unfold Hid; simp [zAI, zAA, j, n, p, q]
       rw [c.out];go_enter Tryz.func55, Tryz.ntmps55;go_wp2_with ((go_at_call 58; refine (zAx _ _ _ _).mono ?_; rintro e g ⟨rfl, rfl⟩))
       go_ret
       exact ⟨rfl, i.out _⟩
      ·cases y : zA6 l 0 4
       ·have c : Hid ((zAI o 0 && (if true then zAA k f l m d else zAY k f l m d)) = false) := by unfold Hid; simp [zAI, zAA, j, n, p, q, y]
        rw [c.out];go_enter Tryz.func55, Tryz.ntmps55;go_wp2_with ((go_at_call 58; refine (zAx _ _ _ _).mono ?_; rintro e g ⟨rfl, rfl⟩))
        go_ret
        exact ⟨rfl, i.out _⟩
       ·by_cases A : k ≤ 2
        ·cases L : zA6 f 0 3
         ·have c : Hid ((zAI o 0 && (if true then zAA k f l m d else zAY k f l m d)) = false) := by unfold Hid; simp [zAI, zAA, zBS, j, n, p, q, y, A, L]
          rw [c.out];go_enter Tryz.func55, Tryz.ntmps55;go_wp2_with ((go_at_call 58; refine (zAx _ _ _ _).mono ?_; rintro e g ⟨rfl, rfl⟩))
          go_ret
          exact ⟨rfl, i.out _⟩
         ·have O : ¬ k = 4 := by omega
          have AA : (k == 4) = false := beq_false_of_ne O;by_cases T : m = 0
          ·subst T;by_cases cA : d.length = 0
           ·have B : d = [] := List.eq_nil_of_length_eq_zero cA;subst B;have c : Hid ((zAI o 0 && (if true then zAA k f l 0 ([] : List Int) else zAY k f l 0 ([] : List Int))) = true) := by unfold Hid; simp [zAI, zAA, zBS, zCo, j, n, p, q, y, A, L, O]
            rw [c.out];go_enter Tryz.func55, Tryz.ntmps55;go_wp2_with ((go_at_call 58; refine (zAx _ _ _ _).mono ?_; rintro e g ⟨rfl, rfl⟩))
            go_ret
            exact ⟨rfl, i.out _⟩
           ·have F : ¬ (d = []) := fun e => cA (by rw [e]; rfl);have H : ¬ ((d.length : Int) = 0) := by omega
            have G : ((d.length : Int) == 0) = false := beq_false_of_ne H;have c : Hid ((zAI o 0 && (if true then zAA k f l 0 d else zAY k f l 0 d)) = false) := by unfold Hid; simp [zAI, zAA, zBS, zCo, j, n, p, q, y, A, L, O, cA]
            rw [c.out];go_enter Tryz.func55, Tryz.ntmps55;go_wp2_with ((go_at_call 58; refine (zAx _ _ _ _).mono ?_; rintro e g ⟨rfl, rfl⟩))
            go_ret
            exact ⟨rfl, i.out _⟩
          ·have KA : (m == 0) = false := beq_false_of_ne T;have c : Hid ((zAI o 0 && (if true then zAA k f l m d else zAY k f l m d)) = false) := by unfold Hid; simp [zAI, zAA, zBS, zCo, j, n, p, q, y, A, L, O, T]
           rw [c.out];go_enter Tryz.func55, Tryz.ntmps55;go_wp2_with ((go_at_call 58; refine (zAx _ _ _ _).mono ?_; rintro e g ⟨rfl, rfl⟩))
           go_ret
           exact ⟨rfl, i.out _⟩
        ·by_cases U : f = 5
         ·subst U;by_cases C : l = 0
          ·subst C;have c : Hid ((zAI o 0 && (if true then zAA k 5 0 m d else zAY k 5 0 m d)) = false) := by unfold Hid; simp [zAI, zAA, zBS, j, n, p, q, y, A]
           rw [c.out];go_enter Tryz.func55, Tryz.ntmps55;go_wp2_with ((go_at_call 58; refine (zAx _ _ _ _).mono ?_; rintro e g ⟨rfl, rfl⟩))
           go_ret
           exact ⟨rfl, i.out _⟩
          ·have CA : (l == 0) = false := beq_false_of_ne C;by_cases I : k = 4
           ·subst I;cases X : zA6 m 0 3
            ·have c : Hid ((zAI o 0 && (if true then zAA 4 5 l m d else zAY 4 5 l m d)) = false) := by unfold Hid; simp [zAI, zAA, zBS, zCo, j, n, p, q, y, A, C, X]
             rw [c.out];go_enter Tryz.func55, Tryz.ntmps55;go_wp2_with ((go_at_call 58; refine (zAx _ _ _ _).mono ?_; rintro e g ⟨rfl, rfl⟩))
             go_ret
             exact ⟨rfl, i.out _⟩
            ·cases N : isL d
             ·have c : Hid ((zAI o 0 && (if true then zAA 4 5 l m d else zAY 4 5 l m d)) = false) := by unfold Hid; simp [zAI, zAA, zBS, zCo, j, n, p, q, y, A, C, X, N]
              rw [c.out];rw [N] at R;go_enter Tryz.func55, Tryz.ntmps55;go_wp2_with (first | (go_at_call 58; refine (zAx _ _ _ _).mono ?_; rintro e g ⟨rfl, rfl⟩) | (go_at_call 103; refine (R.out _ (i.out _)).mono ?_; rintro e g ⟨rfl, rfl⟩))
              go_ret
              exact ⟨rfl, i.out _⟩
             ·have c : Hid ((zAI o 0 && (if true then zAA 4 5 l m d else zAY 4 5 l m d)) = true) := by unfold Hid; simp [zAI, zAA, zBS, zCo, j, n, p, q, y, A, C, X, N]
              rw [c.out];rw [N] at R;go_enter Tryz.func55, Tryz.ntmps55;go_wp2_with (first | (go_at_call 58; refine (zAx _ _ _ _).mono ?_; rintro e g ⟨rfl, rfl⟩) | (go_at_call 103; refine (R.out _ (i.out _)).mono ?_; rintro e g ⟨rfl, rfl⟩))
              go_ret
              exact ⟨rfl, i.out _⟩
           ·have GA : (k == 4) = false := beq_false_of_ne I;by_cases V : m = 0
            ·subst V;by_cases jA : d.length = 0
             ·have B : d = [] := List.eq_nil_of_length_eq_zero jA;subst B;have c : Hid ((zAI o 0 && (if true then zAA k 5 l 0 ([] : List Int) else zAY k 5 l 0 ([] : List Int))) = true) := by unfold Hid; simp [zAI, zAA, zBS, zCo, j, n, p, q, y, A, C, I]
              rw [c.out];go_enter Tryz.func55, Tryz.ntmps55;go_wp2_with ((go_at_call 58; refine (zAx _ _ _ _).mono ?_; rintro e g ⟨rfl, rfl⟩))
              go_ret
              exact ⟨rfl, i.out _⟩
             ·have F : ¬ (d = []) := fun e => jA (by rw [e]; rfl);have H : ¬ ((d.length : Int) = 0) := by omega
              have G : ((d.length : Int) == 0) = false := beq_false_of_ne H;have c : Hid ((zAI o 0 && (if true then zAA k 5 l 0 d else zAY k 5 l 0 d)) = false) := by unfold Hid; simp [zAI, zAA, zBS, zCo, j, n, p, q, y, A, C, I, jA]
              rw [c.out];go_enter Tryz.func55, Tryz.ntmps55;go_wp2_with ((go_at_call 58; refine (zAx _ _ _ _).mono ?_; rintro e g ⟨rfl, rfl⟩))
              go_ret
              exact ⟨rfl, i.out _⟩
            ·have FA : (m == 0) = false := beq_false_of_ne V;have c : Hid ((zAI o 0 && (if true then zAA k 5 l m d else zAY k 5 l m d)) = false) := by unfold Hid; simp [zAI, zAA, zBS, zCo, j, n, p, q, y, A, C, I, V]
             rw [c.out];go_enter Tryz.func55, Tryz.ntmps55;go_wp2_with ((go_at_call 58; refine (zAx _ _ _ _).mono ?_; rintro e g ⟨rfl, rfl⟩))
             go_ret
             exact ⟨rfl, i.out _⟩
         ·have sA : (f == 5) = false := beq_false_of_ne U;have c : Hid ((zAI o 0 && (if true then zAA k f l m d else zAY k f l m d)) = false) := by unfold Hid; simp [zAI, zAA, zBS, j, n, p, q, y, A, U]
          rw [c.out];go_enter Tryz.func55, Tryz.ntmps55;go_wp2_with ((go_at_call 58; refine (zAx _ _ _ _).mono ?_; rintro e g ⟨rfl, rfl⟩))
          go_ret
          exact ⟨rfl, i.out _⟩
    ·have LA : (s == 0) = false := beq_false_of_ne h4;have c : Hid ((zAI o s && (if b then zAA k f l m d else zAY k f l m d)) = false) := by unfold Hid; simp [zAI, j, n, p, h4]
     rw [c.out];go_enter Tryz.func55, Tryz.ntmps55;go_wp2_with ((go_at_call 58; refine (zAx _ _ _ _).mono ?_; rintro e g ⟨rfl, rfl⟩))
     go_ret
     exact ⟨rfl, i.out _⟩
   ·cases b
    ·by_cases S : k = 0
     ·subst S;by_cases Y : f = 0
      ·subst Y;by_cases Z : l = 0
       ·subst Z;by_cases iA : m = 0
        ·subst iA;by_cases gA : d.length = 0
         ·have B : d = [] := List.eq_nil_of_length_eq_zero gA;subst B;have c : Hid ((zAI o s && (if false then zAA 0 0 0 0 ([] : List Int) else zAY 0 0 0 0 ([] : List Int))) = true) := by unfold Hid; simp [zAI, zAY, j, n, p]
          rw [c.out];go_enter Tryz.func55, Tryz.ntmps55;go_wp2_with ((go_at_call 58; refine (zAx _ _ _ _).mono ?_; rintro e g ⟨rfl, rfl⟩))
          go_ret
          exact ⟨rfl, i.out _⟩
         ·have F : ¬ (d = []) := fun e => gA (by rw [e]; rfl);have H : ¬ ((d.length : Int) = 0) := by omega
          have G : ((d.length : Int) == 0) = false := beq_false_of_ne H;have c : Hid ((zAI o s && (if false then zAA 0 0 0 0 d else zAY 0 0 0 0 d)) = false) := by unfold Hid; simp [zAI, zAY, j, n, p, gA]
          rw [c.out];go_enter Tryz.func55, Tryz.ntmps55;go_wp2_with ((go_at_call 58; refine (zAx _ _ _ _).mono ?_; rintro e g ⟨rfl, rfl⟩))
          go_ret
          exact ⟨rfl, i.out _⟩
        ·have DA : (m == 0) = false := beq_false_of_ne iA;have c : Hid ((zAI o s && (if false then zAA 0 0 0 m d else zAY 0 0 0 m d)) = false) := by unfold Hid; simp [zAI, zAY, j, n, p, iA]
         rw [c.out];go_enter Tryz.func55, Tryz.ntmps55;go_wp2_with ((go_at_call 58; refine (zAx _ _ _ _).mono ?_; rintro e g ⟨rfl, rfl⟩))
         go_ret
         exact ⟨rfl, i.out _⟩
       ·have IA : (l == 0) = false := beq_false_of_ne Z;have c : Hid ((zAI o s && (if false then zAA 0 0 l m d else zAY 0 0 l m d)) = false) := by unfold Hid; simp [zAI, zAY, j, n, p, Z]
        rw [c.out];go_enter Tryz.func55, Tryz.ntmps55;go_wp2_with ((go_at_call 58; refine (zAx _ _ _ _).mono ?_; rintro e g ⟨rfl, rfl⟩))
        go_ret
        exact ⟨rfl, i.out _⟩
      ·have yA : (f == 0) = false := beq_false_of_ne Y;have c : Hid ((zAI o s && (if false then zAA 0 f l m d else zAY 0 f l m d)) = false) := by unfold Hid; simp [zAI, zAY, j, n, p, Y]
       rw [c.out];go_enter Tryz.func55, Tryz.ntmps55;go_wp2_with ((go_at_call 58; refine (zAx _ _ _ _).mono ?_; rintro e g ⟨rfl, rfl⟩))
       go_ret
       exact ⟨rfl, i.out _⟩
     ·have BA : (k == 0) = false := beq_false_of_ne S;have c : Hid ((zAI o s && (if false then zAA k f l m d else zAY k f l m d)) = false) := by unfold Hid; simp [zAI, zAY, j, n, p, S]
      rw [c.out];go_enter Tryz.func55, Tryz.ntmps55;go_wp2_with ((go_at_call 58; refine (zAx _ _ _ _).mono ?_; rintro e g ⟨rfl, rfl⟩))
      go_ret
      exact ⟨rfl, i.out _⟩
    ·cases r : zA6 k 1 4
     ·have c : Hid ((zAI o s && (if true then zAA k f l m d else zAY k f l m d)) = false) := by unfold Hid; simp [zAI, zAA, j, n, p, r]
      rw [c.out];go_enter Tryz.func55, Tryz.ntmps55;go_wp2_with ((go_at_call 58; refine (zAx _ _ _ _).mono ?_; rintro e g ⟨rfl, rfl⟩))
      go_ret
      exact ⟨rfl, i.out _⟩
     ·cases v : zA6 l 0 4
      ·have c : Hid ((zAI o s && (if true then zAA k f l m d else zAY k f l m d)) = false) := by unfold Hid; simp [zAI, zAA, j, n, p, r, v]
       rw [c.out];go_enter Tryz.func55, Tryz.ntmps55;go_wp2_with ((go_at_call 58; refine (zAx _ _ _ _).mono ?_; rintro e g ⟨rfl, rfl⟩))
       go_ret
       exact ⟨rfl, i.out _⟩
      ·by_cases z : k ≤ 2
       ·cases M : zA6 f 0 3
        ·have c : Hid ((zAI o s && (if true then zAA k f l m d else zAY k f l m d)) = false) := by unfold Hid; simp [zAI, zAA, zBS, j, n, p, r, v, z, M]
         rw [c.out];go_enter Tryz.func55, Tryz.ntmps55;go_wp2_with ((go_at_call 58; refine (zAx _ _ _ _).mono ?_; rintro e g ⟨rfl, rfl⟩))
         go_ret
         exact ⟨rfl, i.out _⟩
        ·have J : ¬ k = 4 := by omega
         have zA : (k == 4) = false := beq_false_of_ne J;by_cases eA : m = 0
         ·subst eA;by_cases kA : d.length = 0
          ·have B : d = [] := List.eq_nil_of_length_eq_zero kA;subst B;have c : Hid ((zAI o s && (if true then zAA k f l 0 ([] : List Int) else zAY k f l 0 ([] : List Int))) = true) := by unfold Hid; simp [zAI, zAA, zBS, zCo, j, n, p, r, v, z, M, J]
           rw [c.out];go_enter Tryz.func55, Tryz.ntmps55;go_wp2_with ((go_at_call 58; refine (zAx _ _ _ _).mono ?_; rintro e g ⟨rfl, rfl⟩))
           go_ret
           exact ⟨rfl, i.out _⟩
          ·have F : ¬ (d = []) := fun e => kA (by rw [e]; rfl);have H : ¬ ((d.length : Int) = 0) := by omega
           have G : ((d.length : Int) == 0) = false := beq_false_of_ne H;have c : Hid ((zAI o s && (if true then zAA k f l 0 d else zAY k f l 0 d)) = false) := by unfold Hid; simp [zAI, zAA, zBS, zCo, j, n, p, r, v, z, M, J, kA]
           rw [c.out];go_enter Tryz.func55, Tryz.ntmps55;go_wp2_with ((go_at_call 58; refine (zAx _ _ _ _).mono ?_; rintro e g ⟨rfl, rfl⟩))
           go_ret
           exact ⟨rfl, i.out _⟩
         ·have EA : (m == 0) = false := beq_false_of_ne eA;have c : Hid ((zAI o s && (if true then zAA k f l m d else zAY k f l m d)) = false) := by unfold Hid; simp [zAI, zAA, zBS, zCo, j, n, p, r, v, z, M, J, eA]
          rw [c.out];go_enter Tryz.func55, Tryz.ntmps55;go_wp2_with ((go_at_call 58; refine (zAx _ _ _ _).mono ?_; rintro e g ⟨rfl, rfl⟩))
          go_ret
          exact ⟨rfl, i.out _⟩
       ·by_cases bA : f = 5
        ·subst bA;by_cases D : l = 0
         ·subst D;have c : Hid ((zAI o s && (if true then zAA k 5 0 m d else zAY k 5 0 m d)) = false) := by unfold Hid; simp [zAI, zAA, zBS, j, n, p, r, v, z]
          rw [c.out];go_enter Tryz.func55, Tryz.ntmps55;go_wp2_with ((go_at_call 58; refine (zAx _ _ _ _).mono ?_; rintro e g ⟨rfl, rfl⟩))
          go_ret
          exact ⟨rfl, i.out _⟩
         ·have HA : (l == 0) = false := beq_false_of_ne D;by_cases E : k = 4
          ·subst E;cases aA : zA6 m 0 3
           ·have c : Hid ((zAI o s && (if true then zAA 4 5 l m d else zAY 4 5 l m d)) = false) := by unfold Hid; simp [zAI, zAA, zBS, zCo, j, n, p, r, v, z, D, aA]
            rw [c.out];go_enter Tryz.func55, Tryz.ntmps55;go_wp2_with ((go_at_call 58; refine (zAx _ _ _ _).mono ?_; rintro e g ⟨rfl, rfl⟩))
            go_ret
            exact ⟨rfl, i.out _⟩
           ·cases K : isL d
            ·have c : Hid ((zAI o s && (if true then zAA 4 5 l m d else zAY 4 5 l m d)) = false) := by unfold Hid; simp [zAI, zAA, zBS, zCo, j, n, p, r, v, z, D, aA, K]
             rw [c.out];rw [K] at R;go_enter Tryz.func55, Tryz.ntmps55;go_wp2_with (first | (go_at_call 58; refine (zAx _ _ _ _).mono ?_; rintro e g ⟨rfl, rfl⟩) | (go_at_call 103; refine (R.out _ (i.out _)).mono ?_; rintro e g ⟨rfl, rfl⟩))
             go_ret
             exact ⟨rfl, i.out _⟩
            ·have c : Hid ((zAI o s && (if true then zAA 4 5 l m d else zAY 4 5 l m d)) = true) := by unfold Hid; simp [zAI, zAA, zBS, zCo, j, n, p, r, v, z, D, aA, K]
             rw [c.out];rw [K] at R;go_enter Tryz.func55, Tryz.ntmps55;go_wp2_with (first | (go_at_call 58; refine (zAx _ _ _ _).mono ?_; rintro e g ⟨rfl, rfl⟩) | (go_at_call 103; refine (R.out _ (i.out _)).mono ?_; rintro e g ⟨rfl, rfl⟩))
             go_ret
             exact ⟨rfl, i.out _⟩
          ·have vA : (k == 4) = false := beq_false_of_ne E;by_cases dA : m = 0
           ·subst dA;by_cases fA : d.length = 0
            ·have B : d = [] := List.eq_nil_of_length_eq_zero fA;subst B;have c : Hid ((zAI o s && (if true then zAA k 5 l 0 ([] : List Int) else zAY k 5 l 0 ([] : List Int))) = true) := by unfold Hid; simp [zAI, zAA, zBS, zCo, j, n, p, r, v, z, D, E]
             rw [c.out];go_enter Tryz.func55, Tryz.ntmps55;go_wp2_with ((go_at_call 58; refine (zAx _ _ _ _).mono ?_; rintro e g ⟨rfl, rfl⟩))
             go_ret
             exact ⟨rfl, i.out _⟩
            ·have F : ¬ (d = []) := fun e => fA (by rw [e]; rfl);have H : ¬ ((d.length : Int) = 0) := by omega
             have G : ((d.length : Int) == 0) = false := beq_false_of_ne H;have c : Hid ((zAI o s && (if true then zAA k 5 l 0 d else zAY k 5 l 0 d)) = false) := by unfold Hid; simp [zAI, zAA, zBS, zCo, j, n, p, r, v, z, D, E, fA]
             rw [c.out];go_enter Tryz.func55, Tryz.ntmps55;go_wp2_with ((go_at_call 58; refine (zAx _ _ _ _).mono ?_; rintro e g ⟨rfl, rfl⟩))
             go_ret
             exact ⟨rfl, i.out _⟩
           ·have rA : (m == 0) = false := beq_false_of_ne dA;have c : Hid ((zAI o s && (if true then zAA k 5 l m d else zAY k 5 l m d)) = false) := by unfold Hid; simp [zAI, zAA, zBS, zCo, j, n, p, r, v, z, D, E, dA]
            rw [c.out];go_enter Tryz.func55, Tryz.ntmps55;go_wp2_with ((go_at_call 58; refine (zAx _ _ _ _).mono ?_; rintro e g ⟨rfl, rfl⟩))
            go_ret
            exact ⟨rfl, i.out _⟩
        ·have JA : (f == 5) = false := beq_false_of_ne bA;have c : Hid ((zAI o s && (if true then zAA k f l m d else zAY k f l m d)) = false) := by unfold Hid; simp [zAI, zAA, zBS, j, n, p, r, v, z, bA]
         rw [c.out];go_enter Tryz.func55, Tryz.ntmps55;go_wp2_with ((go_at_call 58; refine (zAx _ _ _ _).mono ?_; rintro e g ⟨rfl, rfl⟩))
         go_ret
         exact ⟨rfl, i.out _⟩
end Go.Proofs.YtmaopldahnejdaaGreatDoor
