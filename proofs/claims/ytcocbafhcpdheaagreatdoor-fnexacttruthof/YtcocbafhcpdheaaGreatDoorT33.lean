import Derived.Test.YtcocbafhcpdheaaGreatDoorT00Box
import Derived.Test.YtcocbafhcpdheaaGreatDoorT31
namespace Go.Proofs.YtcocbafhcpdheaaGreatDoor
open Go.ChangeShapes Go.WideShapes Go.ChangeAt Go.RowKit
set_option linter.unusedVariables false
set_option maxHeartbeats 8000000 in
theorem zGM (o s k f l m : Int) (b : Bool) (d : List Int) (a : Option Addr) (cap : Nat) (w : World) (h : zA4 zAG w a d) :
    Calls Tryz.prog 142 #[.agg #[.int .i64 o, .int .i64 s, .bool b, .int .i64 k, .int .i64 f, .int .i64 l, .int .i64 m, .slice a d.length cap]] w fun e i => e = .returned (.bool (zDD (o, s, b, k, f, l, m, d))) ∧ Below w.heap.size w i := by
 have j : Hid _ := zAf w;have S : Hid _ := fun (W : World) (hb : Below w.heap.size w W) => zB4 a d cap W (zBv (zAm h hb));clear h;rw [eb];cases n : zA8 o (-1) 3
 ·have g : Hid ((zBw o s && (if b then zAL k f l m d else zBc k f l m d)) = false) := by unfold Hid; simp [zBw, n]
  rw [g.out];go_enter Tryz.func142, Tryz.ntmps142;go_wp2_with ((c 98; refine (zAo _ _ _ _).mono ?_; rintro e i ⟨rfl, rfl⟩))
  go_ret
  exact ⟨rfl, j.out _⟩
 ·cases p : zA8 s 0 15
  ·have g : Hid ((zBw o s && (if b then zAL k f l m d else zBc k f l m d)) = false) := by unfold Hid; simp [zBw, n, p]
   rw [g.out];go_enter Tryz.func142, Tryz.ntmps142;go_wp2_with ((c 98; refine (zAo _ _ _ _).mono ?_; rintro e i ⟨rfl, rfl⟩))
   go_ret
   exact ⟨rfl, j.out _⟩
  ·by_cases q : 0 ≤ o
   ·by_cases h4 : s = 0
    ·subst h4;cases b
     ·by_cases h5 : k = 0
      ·subst h5;by_cases h6 : f = 0
       ·subst h6;by_cases h7 : l = 0
        ·subst h7;by_cases h8 : m = 0
         ·subst h8;by_cases h9 : d.length = 0
          ·have C : d = [] := List.eq_nil_of_length_eq_zero h9;subst C;have g : Hid ((zBw o 0 && (if false then zAL 0 0 0 0 ([] : List Int) else zBc 0 0 0 0 ([] : List Int))) = true) := by unfold Hid; simp [zBw, zBc, n, p, q]
           rw [g.out];go_enter Tryz.func142, Tryz.ntmps142;go_wp2_with ((c 98; refine (zAo _ _ _ _).mono ?_; rintro e i ⟨rfl, rfl⟩))
           go_ret
           exact ⟨rfl, j.out _⟩
          ·have J : ¬ (d = []) := fun e => h9 (by rw [e]; rfl);have G : ¬ ((d.length : Int) = 0) := by omega
           have F : ((d.length : Int) == 0) = false := beq_false_of_ne G;have g : Hid ((zBw o 0 && (if false then zAL 0 0 0 0 d else zBc 0 0 0 0 d)) = false) := by unfold Hid; simp [zBw, zBc, n, p, q, h9]
           rw [g.out];go_enter Tryz.func142, Tryz.ntmps142;go_wp2_with ((c 98; refine (zAo _ _ _ _).mono ?_; rintro e i ⟨rfl, rfl⟩))
           go_ret
           exact ⟨rfl, j.out _⟩
         ·have MA : (m == 0) = false := beq_false_of_ne h8;have g : Hid ((zBw o 0 && (if false then zAL 0 0 0 m d else zBc 0 0 0 m d)) = false) := by unfold Hid; simp [zBw, zBc, n, p, q, h8]
          rw [g.out];go_enter Tryz.func142, Tryz.ntmps142;go_wp2_with ((c 98; refine (zAo _ _ _ _).mono ?_; rintro e i ⟨rfl, rfl⟩))
          go_ret
          exact ⟨rfl, j.out _⟩
        ·have NA : (l == 0) = false := beq_false_of_ne h7;have g : Hid ((zBw o 0 && (if false then zAL 0 0 l m d else zBc 0 0 l m d)) = false) := by unfold Hid; simp [zBw, zBc, n, p, q, h7]
         rw [g.out];go_enter Tryz.func142, Tryz.ntmps142;go_wp2_with ((c 98; refine (zAo _ _ _ _).mono ?_; rintro e i ⟨rfl, rfl⟩))
         go_ret
         exact ⟨rfl, j.out _⟩
       ·have RA : (f == 0) = false := beq_false_of_ne h6;have g : Hid ((zBw o 0 && (if false then zAL 0 f l m d else zBc 0 f l m d)) = false) := by unfold Hid; simp [zBw, zBc, n, p, q, h6]
        rw [g.out];go_enter Tryz.func142, Tryz.ntmps142;go_wp2_with ((c 98; refine (zAo _ _ _ _).mono ?_; rintro e i ⟨rfl, rfl⟩))
        go_ret
        exact ⟨rfl, j.out _⟩
      ·have OA : (k == 0) = false := beq_false_of_ne h5;have g : Hid ((zBw o 0 && (if false then zAL k f l m d else zBc k f l m d)) = false) := by unfold Hid; simp [zBw, zBc, n, p, q, h5]
       rw [g.out];go_enter Tryz.func142, Tryz.ntmps142;go_wp2_with ((c 98; refine (zAo _ _ _ _).mono ?_; rintro e i ⟨rfl, rfl⟩))
       go_ret
       exact ⟨rfl, j.out _⟩
     ·cases v : zA8 k 1 4
      ·have g : Hid ((zBw o 0 && (if true then zAL k f l m d else zBc k f l m d)) = false) := by unfold Hid; simp [zBw, zAL, n, p, q, v]
       rw [g.out];go_enter Tryz.func142, Tryz.ntmps142;go_wp2_with ((c 98; refine (zAo _ _ _ _).mono ?_; rintro e i ⟨rfl, rfl⟩))
       go_ret
       exact ⟨rfl, j.out _⟩
      ·cases z : zA8 l 0 4
       ·have g : Hid ((zBw o 0 && (if true then zAL k f l m d else zBc k f l m d)) = false) := by unfold Hid; simp [zBw, zAL, n, p, q, v, z]
        rw [g.out];go_enter Tryz.func142, Tryz.ntmps142;go_wp2_with ((c 98; refine (zAo _ _ _ _).mono ?_; rintro e i ⟨rfl, rfl⟩))
        go_ret
        exact ⟨rfl, j.out _⟩
       ·by_cases A : k ≤ 2
        ·cases K : zA8 f 0 3
         ·have g : Hid ((zBw o 0 && (if true then zAL k f l m d else zBc k f l m d)) = false) := by unfold Hid; simp [zBw, zAL, zCS, n, p, q, v, z, A, K]
          rw [g.out];go_enter Tryz.func142, Tryz.ntmps142;go_wp2_with ((c 98; refine (zAo _ _ _ _).mono ?_; rintro e i ⟨rfl, rfl⟩))
          go_ret
          exact ⟨rfl, j.out _⟩
         ·have R : ¬ k = 4 := by omega
          have AA : (k == 4) = false := beq_false_of_ne R;by_cases dA : m = 0
          ·subst dA;by_cases cA : d.length = 0
           ·have C : d = [] := List.eq_nil_of_length_eq_zero cA;subst C;have g : Hid ((zBw o 0 && (if true then zAL k f l 0 ([] : List Int) else zBc k f l 0 ([] : List Int))) = true) := by unfold Hid; simp [zBw, zAL, zCS, zDI, n, p, q, v, z, A, K, R]
            rw [g.out];go_enter Tryz.func142, Tryz.ntmps142;go_wp2_with ((c 98; refine (zAo _ _ _ _).mono ?_; rintro e i ⟨rfl, rfl⟩))
            go_ret
            exact ⟨rfl, j.out _⟩
           ·have J : ¬ (d = []) := fun e => cA (by rw [e]; rfl);have G : ¬ ((d.length : Int) = 0) := by omega
            have F : ((d.length : Int) == 0) = false := beq_false_of_ne G;have g : Hid ((zBw o 0 && (if true then zAL k f l 0 d else zBc k f l 0 d)) = false) := by unfold Hid; simp [zBw, zAL, zCS, zDI, n, p, q, v, z, A, K, R, cA]
            rw [g.out];go_enter Tryz.func142, Tryz.ntmps142;go_wp2_with ((c 98; refine (zAo _ _ _ _).mono ?_; rintro e i ⟨rfl, rfl⟩))
            go_ret
            exact ⟨rfl, j.out _⟩
          ·have sA : (m == 0) = false := beq_false_of_ne dA;have g : Hid ((zBw o 0 && (if true then zAL k f l m d else zBc k f l m d)) = false) := by unfold Hid; simp [zBw, zAL, zCS, zDI, n, p, q, v, z, A, K, R, dA]
           rw [g.out];go_enter Tryz.func142, Tryz.ntmps142;go_wp2_with ((c 98; refine (zAo _ _ _ _).mono ?_; rintro e i ⟨rfl, rfl⟩))
           go_ret
           exact ⟨rfl, j.out _⟩
        ·by_cases eA : f = 5
         ·subst eA;by_cases D : l = 0
          ·subst D;have g : Hid ((zBw o 0 && (if true then zAL k 5 0 m d else zBc k 5 0 m d)) = false) := by unfold Hid; simp [zBw, zAL, zCS, n, p, q, v, z, A]
           rw [g.out];go_enter Tryz.func142, Tryz.ntmps142;go_wp2_with ((c 98; refine (zAo _ _ _ _).mono ?_; rintro e i ⟨rfl, rfl⟩))
           go_ret
           exact ⟨rfl, j.out _⟩
          ·have KA : (l == 0) = false := beq_false_of_ne D;by_cases I : k = 4
           ·subst I;cases Y : zA8 m 0 3
            ·have g : Hid ((zBw o 0 && (if true then zAL 4 5 l m d else zBc 4 5 l m d)) = false) := by unfold Hid; simp [zBw, zAL, zCS, zDI, n, p, q, v, z, A, D, Y]
             rw [g.out];go_enter Tryz.func142, Tryz.ntmps142;go_wp2_with ((c 98; refine (zAo _ _ _ _).mono ?_; rintro e i ⟨rfl, rfl⟩))
             go_ret
             exact ⟨rfl, j.out _⟩
            ·cases L : isL d
             ·have g : Hid ((zBw o 0 && (if true then zAL 4 5 l m d else zBc 4 5 l m d)) = false) := by unfold Hid; simp [zBw, zAL, zCS, zDI, n, p, q, v, z, A, D, Y, L]
              rw [g.out];rw [L] at S;go_enter Tryz.func142, Tryz.ntmps142;go_wp2_with (first | (c 98; refine (zAo _ _ _ _).mono ?_; rintro e i ⟨rfl, rfl⟩) | (c 144; refine (S.out _ (j.out _)).mono ?_; rintro e i ⟨rfl, rfl⟩))
              go_ret
              exact ⟨rfl, j.out _⟩
             ·have g : Hid ((zBw o 0 && (if true then zAL 4 5 l m d else zBc 4 5 l m d)) = true) := by unfold Hid; simp [zBw, zAL, zCS, zDI, n, p, q, v, z, A, D, Y, L]
              rw [g.out];rw [L] at S;go_enter Tryz.func142, Tryz.ntmps142;go_wp2_with (first | (c 98; refine (zAo _ _ _ _).mono ?_; rintro e i ⟨rfl, rfl⟩) | (c 144; refine (S.out _ (j.out _)).mono ?_; rintro e i ⟨rfl, rfl⟩))
              go_ret
              exact ⟨rfl, j.out _⟩
           ·have HA : (k == 4) = false := beq_false_of_ne I;by_cases T : m = 0
            ·subst T;by_cases fA : d.length = 0
             ·have C : d = [] := List.eq_nil_of_length_eq_zero fA;subst C;have g : Hid ((zBw o 0 && (if true then zAL k 5 l 0 ([] : List Int) else zBc k 5 l 0 ([] : List Int))) = true) := by unfold Hid; simp [zBw, zAL, zCS, zDI, n, p, q, v, z, A, D, I]
              rw [g.out];go_enter Tryz.func142, Tryz.ntmps142;go_wp2_with ((c 98; refine (zAo _ _ _ _).mono ?_; rintro e i ⟨rfl, rfl⟩))
              go_ret
              exact ⟨rfl, j.out _⟩
             ·have J : ¬ (d = []) := fun e => fA (by rw [e]; rfl);have G : ¬ ((d.length : Int) = 0) := by omega
              have F : ((d.length : Int) == 0) = false := beq_false_of_ne G;have g : Hid ((zBw o 0 && (if true then zAL k 5 l 0 d else zBc k 5 l 0 d)) = false) := by unfold Hid; simp [zBw, zAL, zCS, zDI, n, p, q, v, z, A, D, I, fA]
              rw [g.out];go_enter Tryz.func142, Tryz.ntmps142;go_wp2_with ((c 98; refine (zAo _ _ _ _).mono ?_; rintro e i ⟨rfl, rfl⟩))
              go_ret
              exact ⟨rfl, j.out _⟩
            ·have DA : (m == 0) = false := beq_false_of_ne T;have g : Hid ((zBw o 0 && (if true then zAL k 5 l m d else zBc k 5 l m d)) = false) := by unfold Hid; simp [zBw, zAL, zCS, zDI, n, p, q, v, z, A, D, I, T]
             rw [g.out];go_enter Tryz.func142, Tryz.ntmps142;go_wp2_with ((c 98; refine (zAo _ _ _ _).mono ?_; rintro e i ⟨rfl, rfl⟩))
             go_ret
             exact ⟨rfl, j.out _⟩
         ·have IA : (f == 5) = false := beq_false_of_ne eA;have g : Hid ((zBw o 0 && (if true then zAL k f l m d else zBc k f l m d)) = false) := by unfold Hid; simp [zBw, zAL, zCS, n, p, q, v, z, A, eA]
          rw [g.out];go_enter Tryz.func142, Tryz.ntmps142;go_wp2_with ((c 98; refine (zAo _ _ _ _).mono ?_; rintro e i ⟨rfl, rfl⟩))
          go_ret
          exact ⟨rfl, j.out _⟩
    ·have SA : (s == 0) = false := beq_false_of_ne h4;have g : Hid ((zBw o s && (if b then zAL k f l m d else zBc k f l m d)) = false) := by unfold Hid; simp [zBw, n, p, q, h4]
     rw [g.out];go_enter Tryz.func142, Tryz.ntmps142;go_wp2_with ((c 98; refine (zAo _ _ _ _).mono ?_; rintro e i ⟨rfl, rfl⟩))
     go_ret
     exact ⟨rfl, j.out _⟩
   ·cases b
    ·by_cases U : k = 0
     ·subst U;by_cases gA : f = 0
      ·subst gA;by_cases X : l = 0
       ·subst X;by_cases jA : m = 0
        ·subst jA;by_cases Z : d.length = 0
         ·have C : d = [] := List.eq_nil_of_length_eq_zero Z;subst C;have g : Hid ((zBw o s && (if false then zAL 0 0 0 0 ([] : List Int) else zBc 0 0 0 0 ([] : List Int))) = true) := by unfold Hid; simp [zBw, zBc, n, p, q]
          rw [g.out];go_enter Tryz.func142, Tryz.ntmps142;go_wp2_with ((c 98; refine (zAo _ _ _ _).mono ?_; rintro e i ⟨rfl, rfl⟩))
          go_ret
          exact ⟨rfl, j.out _⟩
         ·have J : ¬ (d = []) := fun e => Z (by rw [e]; rfl);have G : ¬ ((d.length : Int) = 0) := by omega
          have F : ((d.length : Int) == 0) = false := beq_false_of_ne G;have g : Hid ((zBw o s && (if false then zAL 0 0 0 0 d else zBc 0 0 0 0 d)) = false) := by unfold Hid; simp [zBw, zBc, n, p, q, Z]
          rw [g.out];go_enter Tryz.func142, Tryz.ntmps142;go_wp2_with ((c 98; refine (zAo _ _ _ _).mono ?_; rintro e i ⟨rfl, rfl⟩))
          go_ret
          exact ⟨rfl, j.out _⟩
        ·have FA : (m == 0) = false := beq_false_of_ne jA;have g : Hid ((zBw o s && (if false then zAL 0 0 0 m d else zBc 0 0 0 m d)) = false) := by unfold Hid; simp [zBw, zBc, n, p, q, jA]
         rw [g.out];go_enter Tryz.func142, Tryz.ntmps142;go_wp2_with ((c 98; refine (zAo _ _ _ _).mono ?_; rintro e i ⟨rfl, rfl⟩))
         go_ret
         exact ⟨rfl, j.out _⟩
       ·have LA : (l == 0) = false := beq_false_of_ne X;have g : Hid ((zBw o s && (if false then zAL 0 0 l m d else zBc 0 0 l m d)) = false) := by unfold Hid; simp [zBw, zBc, n, p, q, X]
        rw [g.out];go_enter Tryz.func142, Tryz.ntmps142;go_wp2_with ((c 98; refine (zAo _ _ _ _).mono ?_; rintro e i ⟨rfl, rfl⟩))
        go_ret
        exact ⟨rfl, j.out _⟩
      ·have CA : (f == 0) = false := beq_false_of_ne gA;have g : Hid ((zBw o s && (if false then zAL 0 f l m d else zBc 0 f l m d)) = false) := by unfold Hid; simp [zBw, zBc, n, p, q, gA]
       rw [g.out];go_enter Tryz.func142, Tryz.ntmps142;go_wp2_with ((c 98; refine (zAo _ _ _ _).mono ?_; rintro e i ⟨rfl, rfl⟩))
       go_ret
       exact ⟨rfl, j.out _⟩
     ·have zA : (k == 0) = false := beq_false_of_ne U;have g : Hid ((zBw o s && (if false then zAL k f l m d else zBc k f l m d)) = false) := by unfold Hid; simp [zBw, zBc, n, p, q, U]
      rw [g.out];go_enter Tryz.func142, Tryz.ntmps142;go_wp2_with ((c 98; refine (zAo _ _ _ _).mono ?_; rintro e i ⟨rfl, rfl⟩))
      go_ret
      exact ⟨rfl, j.out _⟩
    ·cases r : zA8 k 1 4
     ·have g : Hid ((zBw o s && (if true then zAL k f l m d else zBc k f l m d)) = false) := by unfold Hid; simp [zBw, zAL, n, p, q, r]
      rw [g.out];go_enter Tryz.func142, Tryz.ntmps142;go_wp2_with ((c 98; refine (zAo _ _ _ _).mono ?_; rintro e i ⟨rfl, rfl⟩))
      go_ret
      exact ⟨rfl, j.out _⟩
     ·cases y : zA8 l 0 4
      ·have g : Hid ((zBw o s && (if true then zAL k f l m d else zBc k f l m d)) = false) := by unfold Hid; simp [zBw, zAL, n, p, q, r, y]
       rw [g.out];go_enter Tryz.func142, Tryz.ntmps142;go_wp2_with ((c 98; refine (zAo _ _ _ _).mono ?_; rintro e i ⟨rfl, rfl⟩))
       go_ret
       exact ⟨rfl, j.out _⟩
      ·by_cases B : k ≤ 2
       ·cases M : zA8 f 0 3
        ·have g : Hid ((zBw o s && (if true then zAL k f l m d else zBc k f l m d)) = false) := by unfold Hid; simp [zBw, zAL, zCS, n, p, q, r, y, B, M]
         rw [g.out];go_enter Tryz.func142, Tryz.ntmps142;go_wp2_with ((c 98; refine (zAo _ _ _ _).mono ?_; rintro e i ⟨rfl, rfl⟩))
         go_ret
         exact ⟨rfl, j.out _⟩
        ·have O : ¬ k = 4 := by omega
         have JA : (k == 4) = false := beq_false_of_ne O;by_cases aA : m = 0
         ·subst aA;by_cases bA : d.length = 0
          ·have C : d = [] := List.eq_nil_of_length_eq_zero bA;subst C;have g : Hid ((zBw o s && (if true then zAL k f l 0 ([] : List Int) else zBc k f l 0 ([] : List Int))) = true) := by unfold Hid; simp [zBw, zAL, zCS, zDI, n, p, q, r, y, B, M, O]
           rw [g.out];go_enter Tryz.func142, Tryz.ntmps142;go_wp2_with ((c 98; refine (zAo _ _ _ _).mono ?_; rintro e i ⟨rfl, rfl⟩))
           go_ret
           exact ⟨rfl, j.out _⟩
          ·have J : ¬ (d = []) := fun e => bA (by rw [e]; rfl);have G : ¬ ((d.length : Int) = 0) := by omega
           have F : ((d.length : Int) == 0) = false := beq_false_of_ne G;have g : Hid ((zBw o s && (if true then zAL k f l 0 d else zBc k f l 0 d)) = false) := by unfold Hid; simp [zBw, zAL, zCS, zDI, n, p, q, r, y, B, M, O, bA]
           rw [g.out];go_enter Tryz.func142, Tryz.ntmps142;go_wp2_with ((c 98; refine (zAo _ _ _ _).mono ?_; rintro e i ⟨rfl, rfl⟩))
           go_ret
           exact ⟨rfl, j.out _⟩
         ·have EA : (m == 0) = false := beq_false_of_ne aA;have g : Hid ((zBw o s && (if true then zAL k f l m d else zBc k f l m d)) = false) := by unfold Hid; simp [zBw, zAL, zCS, zDI, n, p, q, r, y, B, M, O, aA]
          rw [g.out];go_enter Tryz.func142, Tryz.ntmps142;go_wp2_with ((c 98; refine (zAo _ _ _ _).mono ?_; rintro e i ⟨rfl, rfl⟩))
          go_ret
          exact ⟨rfl, j.out _⟩
       ·by_cases V : f = 5
        ·subst V;by_cases E : l = 0
         ·subst E;have g : Hid ((zBw o s && (if true then zAL k 5 0 m d else zBc k 5 0 m d)) = false) := by unfold Hid; simp [zBw, zAL, zCS, n, p, q, r, y, B]
          rw [g.out];go_enter Tryz.func142, Tryz.ntmps142;go_wp2_with ((c 98; refine (zAo _ _ _ _).mono ?_; rintro e i ⟨rfl, rfl⟩))
          go_ret
          exact ⟨rfl, j.out _⟩
         ·have yA : (l == 0) = false := beq_false_of_ne E;by_cases H : k = 4
          ·subst H;cases iA : zA8 m 0 3
           ·have g : Hid ((zBw o s && (if true then zAL 4 5 l m d else zBc 4 5 l m d)) = false) := by unfold Hid; simp [zBw, zAL, zCS, zDI, n, p, q, r, y, B, E, iA]
            rw [g.out];go_enter Tryz.func142, Tryz.ntmps142;go_wp2_with ((c 98; refine (zAo _ _ _ _).mono ?_; rintro e i ⟨rfl, rfl⟩))
            go_ret
            exact ⟨rfl, j.out _⟩
           ·cases N : isL d
            ·have g : Hid ((zBw o s && (if true then zAL 4 5 l m d else zBc 4 5 l m d)) = false) := by unfold Hid; simp [zBw, zAL, zCS, zDI, n, p, q, r, y, B, E, iA, N]
             rw [g.out];rw [N] at S;go_enter Tryz.func142, Tryz.ntmps142;go_wp2_with (first | (c 98; refine (zAo _ _ _ _).mono ?_; rintro e i ⟨rfl, rfl⟩) | (c 144; refine (S.out _ (j.out _)).mono ?_; rintro e i ⟨rfl, rfl⟩))
             go_ret
             exact ⟨rfl, j.out _⟩
            ·have g : Hid ((zBw o s && (if true then zAL 4 5 l m d else zBc 4 5 l m d)) = true) := by unfold Hid; simp [zBw, zAL, zCS, zDI, n, p, q, r, y, B, E, iA, N]
             rw [g.out];rw [N] at S;go_enter Tryz.func142, Tryz.ntmps142;go_wp2_with (first | (c 98; refine (zAo _ _ _ _).mono ?_; rintro e i ⟨rfl, rfl⟩) | (c 144; refine (S.out _ (j.out _)).mono ?_; rintro e i ⟨rfl, rfl⟩))
             go_ret
             exact ⟨rfl, j.out _⟩
          ·have vA : (k == 4) = false := beq_false_of_ne H;by_cases lA : m = 0
           ·subst lA;by_cases kA : d.length = 0
            ·have C : d = [] := List.eq_nil_of_length_eq_zero kA;subst C;have g : Hid ((zBw o s && (if true then zAL k 5 l 0 ([] : List Int) else zBc k 5 l 0 ([] : List Int))) = true) := by unfold Hid; simp [zBw, zAL, zCS, zDI, n, p, q, r, y, B, E, H]
             rw [g.out];go_enter Tryz.func142, Tryz.ntmps142;go_wp2_with ((c 98; refine (zAo _ _ _ _).mono ?_; rintro e i ⟨rfl, rfl⟩))
             go_ret
             exact ⟨rfl, j.out _⟩
            ·have J : ¬ (d = []) := fun e => kA (by rw [e]; rfl);have G : ¬ ((d.length : Int) = 0) := by omega
             have F : ((d.length : Int) == 0) = false := beq_false_of_ne G;have g : Hid ((zBw o s && (if true then zAL k 5 l 0 d else zBc k 5 l 0 d)) = false) := by unfold Hid; simp [zBw, zAL, zCS, zDI, n, p, q, r, y, B, E, H, kA]
             rw [g.out];go_enter Tryz.func142, Tryz.ntmps142;go_wp2_with ((c 98; refine (zAo _ _ _ _).mono ?_; rintro e i ⟨rfl, rfl⟩))
             go_ret
             exact ⟨rfl, j.out _⟩
           ·have BA : (m == 0) = false := beq_false_of_ne lA;have g : Hid ((zBw o s && (if true then zAL k 5 l m d else zBc k 5 l m d)) = false) := by unfold Hid; simp [zBw, zAL, zCS, zDI, n, p, q, r, y, B, E, H, lA]
            rw [g.out];go_enter Tryz.func142, Tryz.ntmps142;go_wp2_with ((c 98; refine (zAo _ _ _ _).mono ?_; rintro e i ⟨rfl, rfl⟩))
            go_ret
            exact ⟨rfl, j.out _⟩
        ·have GA : (f == 5) = false := beq_false_of_ne V;have g : Hid ((zBw o s && (if true then zAL k f l m d else zBc k f l m d)) = false) := by unfold Hid; simp [zBw, zAL, zCS, n, p, q, r, y, B, V]
         rw [g.out];go_enter Tryz.func142, Tryz.ntmps142;go_wp2_with ((c 98; refine (zAo _ _ _ _).mono ?_; rintro e i ⟨rfl, rfl⟩))
         go_ret
         exact ⟨rfl, j.out _⟩
end Go.Proofs.YtcocbafhcpdheaaGreatDoor
