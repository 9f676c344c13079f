import Derived.Test.YtcocbafhcpdheaaGreatDoorS00Box
import Derived.Test.YtcocbafhcpdheaaGreatDoorS32
namespace Go.Proofs.YtcocbafhcpdheaaGreatDoor
open Go.ChangeShapes Go.WideShapes Go.ChangeAt Go.RowKit
set_option linter.unusedVariables false
set_option maxHeartbeats 8000000 in
theorem specEntryOk_any (o s k f l m : Int) (b : Bool) (d : List Int) (a : Option Addr) (cap : Nat) (w : World) (h : SlRd intR w a d) :
    Calls Tryz.prog 142 #[.agg #[.int .i64 o, .int .i64 s, .bool b, .int .i64 k, .int .i64 f, .int .i64 l, .int .i64 m, .slice a d.length cap]] w fun e i => e = .returned (.bool (entB (o, s, b, k, f, l, m, d))) ∧ Below w.heap.size w i := by
 have j : Hid _ := box_below w;have S : Hid _ := fun (W : World) (hb : Below w.heap.size w W) => specLineOk_any a d cap W (reads_of (slrd_next h hb));clear h;rw [eb];cases n : betw o (-1) 3
 ·have g : Hid ((whoB o s && (if b then busyB k f l m d else restB k f l m d)) = false) := by unfold Hid; simp [whoB, n]
  rw [g.out];go_enter Tryz.func142, Tryz.ntmps142;go_wp2_with ((c 98; refine (l1In_any _ _ _ _).mono ?_; rintro e i ⟨rfl, rfl⟩))
  go_ret
  exact ⟨rfl, j.out _⟩
 ·cases p : betw s 0 15
  ·have g : Hid ((whoB o s && (if b then busyB k f l m d else restB k f l m d)) = false) := by unfold Hid; simp [whoB, n, p]
   rw [g.out];go_enter Tryz.func142, Tryz.ntmps142;go_wp2_with ((c 98; refine (l1In_any _ _ _ _).mono ?_; rintro e i ⟨rfl, rfl⟩))
   go_ret
   exact ⟨rfl, j.out _⟩
  ·by_cases q : 0 ≤ o
   ·by_cases h4 : s = 0
    ·subst h4;cases b
     ·by_cases h5 : k = 0
      ·subst h5;by_cases h6 : f = 0
       ·subst h6;by_cases h7 : l = 0
        ·subst h7;by_cases h8 : m = 0
         ·subst h8;by_cases h9 : d.length = 0
          ·have C : d = [] := List.eq_nil_of_length_eq_zero h9;subst C;have g : Hid ((whoB o 0 && (if false then busyB 0 0 0 0 ([] : List Int) else restB 0 0 0 0 ([] : List Int))) = true) := by unfold Hid; simp [whoB, restB, n, p, q]
           rw [g.out];go_enter Tryz.func142, Tryz.ntmps142;go_wp2_with ((c 98; refine (l1In_any _ _ _ _).mono ?_; rintro e i ⟨rfl, rfl⟩))
           go_ret
           exact ⟨rfl, j.out _⟩
          ·have I : ¬ (d = []) := fun e => h9 (by rw [e]; rfl);have J : ¬ ((d.length : Int) = 0) := by omega
           have H : ((d.length : Int) == 0) = false := beq_false_of_ne J;have g : Hid ((whoB o 0 && (if false then busyB 0 0 0 0 d else restB 0 0 0 0 d)) = false) := by unfold Hid; simp [whoB, restB, n, p, q, h9]
           rw [g.out];go_enter Tryz.func142, Tryz.ntmps142;go_wp2_with ((c 98; refine (l1In_any _ _ _ _).mono ?_; rintro e i ⟨rfl, rfl⟩))
           go_ret
           exact ⟨rfl, j.out _⟩
         ·have RA : (m == 0) = false := beq_false_of_ne h8;have g : Hid ((whoB o 0 && (if false then busyB 0 0 0 m d else restB 0 0 0 m d)) = false) := by unfold Hid; simp [whoB, restB, n, p, q, h8]
          rw [g.out];go_enter Tryz.func142, Tryz.ntmps142;go_wp2_with ((c 98; refine (l1In_any _ _ _ _).mono ?_; rintro e i ⟨rfl, rfl⟩))
          go_ret
          exact ⟨rfl, j.out _⟩
        ·have OA : (l == 0) = false := beq_false_of_ne h7;have g : Hid ((whoB o 0 && (if false then busyB 0 0 l m d else restB 0 0 l m d)) = false) := by unfold Hid; simp [whoB, restB, n, p, q, h7]
         rw [g.out];go_enter Tryz.func142, Tryz.ntmps142;go_wp2_with ((c 98; refine (l1In_any _ _ _ _).mono ?_; rintro e i ⟨rfl, rfl⟩))
         go_ret
         exact ⟨rfl, j.out _⟩
       ·have MA : (f == 0) = false := beq_false_of_ne h6;have g : Hid ((whoB o 0 && (if false then busyB 0 f l m d else restB 0 f l m d)) = false) := by unfold Hid; simp [whoB, restB, n, p, q, h6]
        rw [g.out];go_enter Tryz.func142, Tryz.ntmps142;go_wp2_with ((c 98; refine (l1In_any _ _ _ _).mono ?_; rintro e i ⟨rfl, rfl⟩))
        go_ret
        exact ⟨rfl, j.out _⟩
      ·have SA : (k == 0) = false := beq_false_of_ne h5;have g : Hid ((whoB o 0 && (if false then busyB k f l m d else restB k f l m d)) = false) := by unfold Hid; simp [whoB, restB, n, p, q, h5]
       rw [g.out];go_enter Tryz.func142, Tryz.ntmps142;go_wp2_with ((c 98; refine (l1In_any _ _ _ _).mono ?_; rintro e i ⟨rfl, rfl⟩))
       go_ret
       exact ⟨rfl, j.out _⟩
     ·cases r : betw k 1 4
      ·have g : Hid ((whoB o 0 && (if true then busyB k f l m d else restB k f l m d)) = false) := by unfold Hid; simp [whoB, busyB, n, p, q, r]
       rw [g.out];go_enter Tryz.func142, Tryz.ntmps142;go_wp2_with ((c 98; refine (l1In_any _ _ _ _).mono ?_; rintro e i ⟨rfl, rfl⟩))
       go_ret
       exact ⟨rfl, j.out _⟩
      ·cases y : betw l 0 4
       ·have g : Hid ((whoB o 0 && (if true then busyB k f l m d else restB k f l m d)) = false) := by unfold Hid; simp [whoB, busyB, n, p, q, r, y]
        rw [g.out];go_enter Tryz.func142, Tryz.ntmps142;go_wp2_with ((c 98; refine (l1In_any _ _ _ _).mono ?_; rintro e i ⟨rfl, rfl⟩))
        go_ret
        exact ⟨rfl, j.out _⟩
       ·by_cases A : k ≤ 2
        ·cases N : betw f 0 3
         ·have g : Hid ((whoB o 0 && (if true then busyB k f l m d else restB k f l m d)) = false) := by unfold Hid; simp [whoB, busyB, fromB, n, p, q, r, y, A, N]
          rw [g.out];go_enter Tryz.func142, Tryz.ntmps142;go_wp2_with ((c 98; refine (l1In_any _ _ _ _).mono ?_; rintro e i ⟨rfl, rfl⟩))
          go_ret
          exact ⟨rfl, j.out _⟩
         ·have L : ¬ k = 4 := by omega
          have BA : (k == 4) = false := beq_false_of_ne L;by_cases fA : m = 0
          ·subst fA;by_cases V : d.length = 0
           ·have C : d = [] := List.eq_nil_of_length_eq_zero V;subst C;have g : Hid ((whoB o 0 && (if true then busyB k f l 0 ([] : List Int) else restB k f l 0 ([] : List Int))) = true) := by unfold Hid; simp [whoB, busyB, fromB, loadB, n, p, q, r, y, A, N, L]
            rw [g.out];go_enter Tryz.func142, Tryz.ntmps142;go_wp2_with ((c 98; refine (l1In_any _ _ _ _).mono ?_; rintro e i ⟨rfl, rfl⟩))
            go_ret
            exact ⟨rfl, j.out _⟩
           ·have I : ¬ (d = []) := fun e => V (by rw [e]; rfl);have J : ¬ ((d.length : Int) = 0) := by omega
            have H : ((d.length : Int) == 0) = false := beq_false_of_ne J;have g : Hid ((whoB o 0 && (if true then busyB k f l 0 d else restB k f l 0 d)) = false) := by unfold Hid; simp [whoB, busyB, fromB, loadB, n, p, q, r, y, A, N, L, V]
            rw [g.out];go_enter Tryz.func142, Tryz.ntmps142;go_wp2_with ((c 98; refine (l1In_any _ _ _ _).mono ?_; rintro e i ⟨rfl, rfl⟩))
            go_ret
            exact ⟨rfl, j.out _⟩
          ·have JA : (m == 0) = false := beq_false_of_ne fA;have g : Hid ((whoB o 0 && (if true then busyB k f l m d else restB k f l m d)) = false) := by unfold Hid; simp [whoB, busyB, fromB, loadB, n, p, q, r, y, A, N, L, fA]
           rw [g.out];go_enter Tryz.func142, Tryz.ntmps142;go_wp2_with ((c 98; refine (l1In_any _ _ _ _).mono ?_; rintro e i ⟨rfl, rfl⟩))
           go_ret
           exact ⟨rfl, j.out _⟩
        ·by_cases kA : f = 5
         ·subst kA;by_cases E : l = 0
          ·subst E;have g : Hid ((whoB o 0 && (if true then busyB k 5 0 m d else restB k 5 0 m d)) = false) := by unfold Hid; simp [whoB, busyB, fromB, n, p, q, r, y, A]
           rw [g.out];go_enter Tryz.func142, Tryz.ntmps142;go_wp2_with ((c 98; refine (l1In_any _ _ _ _).mono ?_; rintro e i ⟨rfl, rfl⟩))
           go_ret
           exact ⟨rfl, j.out _⟩
          ·have CA : (l == 0) = false := beq_false_of_ne E;by_cases G : k = 4
           ·subst G;cases iA : betw m 0 3
            ·have g : Hid ((whoB o 0 && (if true then busyB 4 5 l m d else restB 4 5 l m d)) = false) := by unfold Hid; simp [whoB, busyB, fromB, loadB, n, p, q, r, y, A, E, iA]
             rw [g.out];go_enter Tryz.func142, Tryz.ntmps142;go_wp2_with ((c 98; refine (l1In_any _ _ _ _).mono ?_; rintro e i ⟨rfl, rfl⟩))
             go_ret
             exact ⟨rfl, j.out _⟩
            ·cases M : isL d
             ·have g : Hid ((whoB o 0 && (if true then busyB 4 5 l m d else restB 4 5 l m d)) = false) := by unfold Hid; simp [whoB, busyB, fromB, loadB, n, p, q, r, y, A, E, iA, M]
              rw [g.out];rw [M] at S;go_enter Tryz.func142, Tryz.ntmps142;go_wp2_with (first | (c 98; refine (l1In_any _ _ _ _).mono ?_; rintro e i ⟨rfl, rfl⟩) | (c 144; refine (S.out _ (j.out _)).mono ?_; rintro e i ⟨rfl, rfl⟩))
              go_ret
              exact ⟨rfl, j.out _⟩
             ·have g : Hid ((whoB o 0 && (if true then busyB 4 5 l m d else restB 4 5 l m d)) = true) := by unfold Hid; simp [whoB, busyB, fromB, loadB, n, p, q, r, y, A, E, iA, M]
              rw [g.out];rw [M] at S;go_enter Tryz.func142, Tryz.ntmps142;go_wp2_with (first | (c 98; refine (l1In_any _ _ _ _).mono ?_; rintro e i ⟨rfl, rfl⟩) | (c 144; refine (S.out _ (j.out _)).mono ?_; rintro e i ⟨rfl, rfl⟩))
              go_ret
              exact ⟨rfl, j.out _⟩
           ·have AA : (k == 4) = false := beq_false_of_ne G;by_cases eA : m = 0
            ·subst eA;by_cases T : d.length = 0
             ·have C : d = [] := List.eq_nil_of_length_eq_zero T;subst C;have g : Hid ((whoB o 0 && (if true then busyB k 5 l 0 ([] : List Int) else restB k 5 l 0 ([] : List Int))) = true) := by unfold Hid; simp [whoB, busyB, fromB, loadB, n, p, q, r, y, A, E, G]
              rw [g.out];go_enter Tryz.func142, Tryz.ntmps142;go_wp2_with ((c 98; refine (l1In_any _ _ _ _).mono ?_; rintro e i ⟨rfl, rfl⟩))
              go_ret
              exact ⟨rfl, j.out _⟩
             ·have I : ¬ (d = []) := fun e => T (by rw [e]; rfl);have J : ¬ ((d.length : Int) = 0) := by omega
              have H : ((d.length : Int) == 0) = false := beq_false_of_ne J;have g : Hid ((whoB o 0 && (if true then busyB k 5 l 0 d else restB k 5 l 0 d)) = false) := by unfold Hid; simp [whoB, busyB, fromB, loadB, n, p, q, r, y, A, E, G, T]
              rw [g.out];go_enter Tryz.func142, Tryz.ntmps142;go_wp2_with ((c 98; refine (l1In_any _ _ _ _).mono ?_; rintro e i ⟨rfl, rfl⟩))
              go_ret
              exact ⟨rfl, j.out _⟩
            ·have KA : (m == 0) = false := beq_false_of_ne eA;have g : Hid ((whoB o 0 && (if true then busyB k 5 l m d else restB k 5 l m d)) = false) := by unfold Hid; simp [whoB, busyB, fromB, loadB, n, p, q, r, y, A, E, G, eA]
             rw [g.out];go_enter Tryz.func142, Tryz.ntmps142;go_wp2_with ((c 98; refine (l1In_any _ _ _ _).mono ?_; rintro e i ⟨rfl, rfl⟩))
             go_ret
             exact ⟨rfl, j.out _⟩
         ·have EA : (f == 5) = false := beq_false_of_ne kA;have g : Hid ((whoB o 0 && (if true then busyB k f l m d else restB k f l m d)) = false) := by unfold Hid; simp [whoB, busyB, fromB, n, p, q, r, y, A, kA]
          rw [g.out];go_enter Tryz.func142, Tryz.ntmps142;go_wp2_with ((c 98; refine (l1In_any _ _ _ _).mono ?_; rintro e i ⟨rfl, rfl⟩))
          go_ret
          exact ⟨rfl, j.out _⟩
    ·have NA : (s == 0) = false := beq_false_of_ne h4;have g : Hid ((whoB o s && (if b then busyB k f l m d else restB k f l m d)) = false) := by unfold Hid; simp [whoB, n, p, q, h4]
     rw [g.out];go_enter Tryz.func142, Tryz.ntmps142;go_wp2_with ((c 98; refine (l1In_any _ _ _ _).mono ?_; rintro e i ⟨rfl, rfl⟩))
     go_ret
     exact ⟨rfl, j.out _⟩
   ·cases b
    ·by_cases dA : k = 0
     ·subst dA;by_cases X : f = 0
      ·subst X;by_cases gA : l = 0
       ·subst gA;by_cases Z : m = 0
        ·subst Z;by_cases bA : d.length = 0
         ·have C : d = [] := List.eq_nil_of_length_eq_zero bA;subst C;have g : Hid ((whoB o s && (if false then busyB 0 0 0 0 ([] : List Int) else restB 0 0 0 0 ([] : List Int))) = true) := by unfold Hid; simp [whoB, restB, n, p, q]
          rw [g.out];go_enter Tryz.func142, Tryz.ntmps142;go_wp2_with ((c 98; refine (l1In_any _ _ _ _).mono ?_; rintro e i ⟨rfl, rfl⟩))
          go_ret
          exact ⟨rfl, j.out _⟩
         ·have I : ¬ (d = []) := fun e => bA (by rw [e]; rfl);have J : ¬ ((d.length : Int) = 0) := by omega
          have H : ((d.length : Int) == 0) = false := beq_false_of_ne J;have g : Hid ((whoB o s && (if false then busyB 0 0 0 0 d else restB 0 0 0 0 d)) = false) := by unfold Hid; simp [whoB, restB, n, p, q, bA]
          rw [g.out];go_enter Tryz.func142, Tryz.ntmps142;go_wp2_with ((c 98; refine (l1In_any _ _ _ _).mono ?_; rintro e i ⟨rfl, rfl⟩))
          go_ret
          exact ⟨rfl, j.out _⟩
        ·have yA : (m == 0) = false := beq_false_of_ne Z;have g : Hid ((whoB o s && (if false then busyB 0 0 0 m d else restB 0 0 0 m d)) = false) := by unfold Hid; simp [whoB, restB, n, p, q, Z]
         rw [g.out];go_enter Tryz.func142, Tryz.ntmps142;go_wp2_with ((c 98; refine (l1In_any _ _ _ _).mono ?_; rintro e i ⟨rfl, rfl⟩))
         go_ret
         exact ⟨rfl, j.out _⟩
       ·have DA : (l == 0) = false := beq_false_of_ne gA;have g : Hid ((whoB o s && (if false then busyB 0 0 l m d else restB 0 0 l m d)) = false) := by unfold Hid; simp [whoB, restB, n, p, q, gA]
        rw [g.out];go_enter Tryz.func142, Tryz.ntmps142;go_wp2_with ((c 98; refine (l1In_any _ _ _ _).mono ?_; rintro e i ⟨rfl, rfl⟩))
        go_ret
        exact ⟨rfl, j.out _⟩
      ·have IA : (f == 0) = false := beq_false_of_ne X;have g : Hid ((whoB o s && (if false then busyB 0 f l m d else restB 0 f l m d)) = false) := by unfold Hid; simp [whoB, restB, n, p, q, X]
       rw [g.out];go_enter Tryz.func142, Tryz.ntmps142;go_wp2_with ((c 98; refine (l1In_any _ _ _ _).mono ?_; rintro e i ⟨rfl, rfl⟩))
       go_ret
       exact ⟨rfl, j.out _⟩
     ·have HA : (k == 0) = false := beq_false_of_ne dA;have g : Hid ((whoB o s && (if false then busyB k f l m d else restB k f l m d)) = false) := by unfold Hid; simp [whoB, restB, n, p, q, dA]
      rw [g.out];go_enter Tryz.func142, Tryz.ntmps142;go_wp2_with ((c 98; refine (l1In_any _ _ _ _).mono ?_; rintro e i ⟨rfl, rfl⟩))
      go_ret
      exact ⟨rfl, j.out _⟩
    ·cases v : betw k 1 4
     ·have g : Hid ((whoB o s && (if true then busyB k f l m d else restB k f l m d)) = false) := by unfold Hid; simp [whoB, busyB, n, p, q, v]
      rw [g.out];go_enter Tryz.func142, Tryz.ntmps142;go_wp2_with ((c 98; refine (l1In_any _ _ _ _).mono ?_; rintro e i ⟨rfl, rfl⟩))
      go_ret
      exact ⟨rfl, j.out _⟩
     ·cases z : betw l 0 4
      ·have g : Hid ((whoB o s && (if true then busyB k f l m d else restB k f l m d)) = false) := by unfold Hid; simp [whoB, busyB, n, p, q, v, z]
       rw [g.out];go_enter Tryz.func142, Tryz.ntmps142;go_wp2_with ((c 98; refine (l1In_any _ _ _ _).mono ?_; rintro e i ⟨rfl, rfl⟩))
       go_ret
       exact ⟨rfl, j.out _⟩
      ·by_cases B : k ≤ 2
       ·cases R : betw f 0 3
        ·have g : Hid ((whoB o s && (if true then busyB k f l m d else restB k f l m d)) = false) := by unfold Hid; simp [whoB, busyB, fromB, n, p, q, v, z, B, R]
         rw [g.out];go_enter Tryz.func142, Tryz.ntmps142;go_wp2_with ((c 98; refine (l1In_any _ _ _ _).mono ?_; rintro e i ⟨rfl, rfl⟩))
         go_ret
         exact ⟨rfl, j.out _⟩
        ·have K : ¬ k = 4 := by omega
         have vA : (k == 4) = false := beq_false_of_ne K;by_cases lA : m = 0
         ·subst lA;by_cases cA : d.length = 0
          ·have C : d = [] := List.eq_nil_of_length_eq_zero cA;subst C;have g : Hid ((whoB o s && (if true then busyB k f l 0 ([] : List Int) else restB k f l 0 ([] : List Int))) = true) := by unfold Hid; simp [whoB, busyB, fromB, loadB, n, p, q, v, z, B, R, K]
           rw [g.out];go_enter Tryz.func142, Tryz.ntmps142;go_wp2_with ((c 98; refine (l1In_any _ _ _ _).mono ?_; rintro e i ⟨rfl, rfl⟩))
           go_ret
           exact ⟨rfl, j.out _⟩
          ·have I : ¬ (d = []) := fun e => cA (by rw [e]; rfl);have J : ¬ ((d.length : Int) = 0) := by omega
           have H : ((d.length : Int) == 0) = false := beq_false_of_ne J;have g : Hid ((whoB o s && (if true then busyB k f l 0 d else restB k f l 0 d)) = false) := by unfold Hid; simp [whoB, busyB, fromB, loadB, n, p, q, v, z, B, R, K, cA]
           rw [g.out];go_enter Tryz.func142, Tryz.ntmps142;go_wp2_with ((c 98; refine (l1In_any _ _ _ _).mono ?_; rintro e i ⟨rfl, rfl⟩))
           go_ret
           exact ⟨rfl, j.out _⟩
         ·have FA : (m == 0) = false := beq_false_of_ne lA;have g : Hid ((whoB o s && (if true then busyB k f l m d else restB k f l m d)) = false) := by unfold Hid; simp [whoB, busyB, fromB, loadB, n, p, q, v, z, B, R, K, lA]
          rw [g.out];go_enter Tryz.func142, Tryz.ntmps142;go_wp2_with ((c 98; refine (l1In_any _ _ _ _).mono ?_; rintro e i ⟨rfl, rfl⟩))
          go_ret
          exact ⟨rfl, j.out _⟩
       ·by_cases Y : f = 5
        ·subst Y;by_cases D : l = 0
         ·subst D;have g : Hid ((whoB o s && (if true then busyB k 5 0 m d else restB k 5 0 m d)) = false) := by unfold Hid; simp [whoB, busyB, fromB, n, p, q, v, z, B]
          rw [g.out];go_enter Tryz.func142, Tryz.ntmps142;go_wp2_with ((c 98; refine (l1In_any _ _ _ _).mono ?_; rintro e i ⟨rfl, rfl⟩))
          go_ret
          exact ⟨rfl, j.out _⟩
         ·have sA : (l == 0) = false := beq_false_of_ne D;by_cases F : k = 4
          ·subst F;cases U : betw m 0 3
           ·have g : Hid ((whoB o s && (if true then busyB 4 5 l m d else restB 4 5 l m d)) = false) := by unfold Hid; simp [whoB, busyB, fromB, loadB, n, p, q, v, z, B, D, U]
            rw [g.out];go_enter Tryz.func142, Tryz.ntmps142;go_wp2_with ((c 98; refine (l1In_any _ _ _ _).mono ?_; rintro e i ⟨rfl, rfl⟩))
            go_ret
            exact ⟨rfl, j.out _⟩
           ·cases O : isL d
            ·have g : Hid ((whoB o s && (if true then busyB 4 5 l m d else restB 4 5 l m d)) = false) := by unfold Hid; simp [whoB, busyB, fromB, loadB, n, p, q, v, z, B, D, U, O]
             rw [g.out];rw [O] at S;go_enter Tryz.func142, Tryz.ntmps142;go_wp2_with (first | (c 98; refine (l1In_any _ _ _ _).mono ?_; rintro e i ⟨rfl, rfl⟩) | (c 144; refine (S.out _ (j.out _)).mono ?_; rintro e i ⟨rfl, rfl⟩))
             go_ret
             exact ⟨rfl, j.out _⟩
            ·have g : Hid ((whoB o s && (if true then busyB 4 5 l m d else restB 4 5 l m d)) = true) := by unfold Hid; simp [whoB, busyB, fromB, loadB, n, p, q, v, z, B, D, U, O]
             rw [g.out];rw [O] at S;go_enter Tryz.func142, Tryz.ntmps142;go_wp2_with (first | (c 98; refine (l1In_any _ _ _ _).mono ?_; rintro e i ⟨rfl, rfl⟩) | (c 144; refine (S.out _ (j.out _)).mono ?_; rintro e i ⟨rfl, rfl⟩))
             go_ret
             exact ⟨rfl, j.out _⟩
          ·have LA : (k == 4) = false := beq_false_of_ne F;by_cases aA : m = 0
           ·subst aA;by_cases jA : d.length = 0
            ·have C : d = [] := List.eq_nil_of_length_eq_zero jA;subst C;have g : Hid ((whoB o s && (if true then busyB k 5 l 0 ([] : List Int) else restB k 5 l 0 ([] : List Int))) = true) := by unfold Hid; simp [whoB, busyB, fromB, loadB, n, p, q, v, z, B, D, F]
             rw [g.out];go_enter Tryz.func142, Tryz.ntmps142;go_wp2_with ((c 98; refine (l1In_any _ _ _ _).mono ?_; rintro e i ⟨rfl, rfl⟩))
             go_ret
             exact ⟨rfl, j.out _⟩
            ·have I : ¬ (d = []) := fun e => jA (by rw [e]; rfl);have J : ¬ ((d.length : Int) = 0) := by omega
             have H : ((d.length : Int) == 0) = false := beq_false_of_ne J;have g : Hid ((whoB o s && (if true then busyB k 5 l 0 d else restB k 5 l 0 d)) = false) := by unfold Hid; simp [whoB, busyB, fromB, loadB, n, p, q, v, z, B, D, F, jA]
             rw [g.out];go_enter Tryz.func142, Tryz.ntmps142;go_wp2_with ((c 98; refine (l1In_any _ _ _ _).mono ?_; rintro e i ⟨rfl, rfl⟩))
             go_ret
             exact ⟨rfl, j.out _⟩
           ·have zA : (m == 0) = false := beq_false_of_ne aA;have g : Hid ((whoB o s && (if true then busyB k 5 l m d else restB k 5 l m d)) = false) := by unfold Hid; simp [whoB, busyB, fromB, loadB, n, p, q, v, z, B, D, F, aA]
            rw [g.out];go_enter Tryz.func142, Tryz.ntmps142;go_wp2_with ((c 98; refine (l1In_any _ _ _ _).mono ?_; rintro e i ⟨rfl, rfl⟩))
            go_ret
            exact ⟨rfl, j.out _⟩
        ·have GA : (f == 5) = false := beq_false_of_ne Y;have g : Hid ((whoB o s && (if true then busyB k f l m d else restB k f l m d)) = false) := by unfold Hid; simp [whoB, busyB, fromB, n, p, q, v, z, B, Y]
         rw [g.out];go_enter Tryz.func142, Tryz.ntmps142;go_wp2_with ((c 98; refine (l1In_any _ _ _ _).mono ?_; rintro e i ⟨rfl, rfl⟩))
         go_ret
         exact ⟨rfl, j.out _⟩
end Go.Proofs.YtcocbafhcpdheaaGreatDoor
