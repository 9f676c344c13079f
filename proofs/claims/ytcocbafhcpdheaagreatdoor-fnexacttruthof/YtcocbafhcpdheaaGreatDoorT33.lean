import Derived.Test.YtcocbafhcpdheaaGreatDoorT00Box
import Derived.Test.YtcocbafhcpdheaaGreatDoorT31
namespace Go.Proofs.YtcocbafhcpdheaaGreatDoor
open Go.ChangeShapes Go.WideShapes Go.ChangeAt Go.RowKit
set_option linter.unusedVariables false
set_option maxHeartbeats 8000000 in
theorem zGM (o s k f l m : Int) (b : Bool) (d : List Int) (a : Option Addr) (cap : Nat) (w : World) (h : zA4 zAG w a d) :
    Calls Tryz.prog 142 #[.agg #[.int .i64 o, .int .i64 s, .bool b, .int .i64 k, .int .i64 f, .int .i64 l, .int .i64 m, .slice a d.length cap]] w fun e w' => e = .returned (.bool (zDD (o, s, b, k, f, l, m, d))) ∧ Below w.heap.size w w' := by
 have HB : Hid _ := zAf w;have HL : Hid _ := fun (W : World) (hb : Below w.heap.size w W) => zB4 a d cap W (zBv (zAm h hb));clear h;rw [eb];cases h1 : zA8 o (-1) 3
 ·have HV : Hid ((zBw o s && (if b then zAL k f l m d else zBc k f l m d)) = false) := by unfold Hid; simp [zBw, h1]
  rw [HV.out];go_enter Tryz.func142, Tryz.ntmps142;go_wp2_with ((go_at_call 98; refine (zAo _ _ _ _).mono ?_; rintro e w' ⟨rfl, rfl⟩))
  go_ret
  exact ⟨rfl, HB.out _⟩
 ·cases h2 : zA8 s 0 15
  ·have HV : Hid ((zBw o s && (if b then zAL k f l m d else zBc k f l m d)) = false) := by unfold Hid; simp [zBw, h1, h2]
   rw [HV.out];go_enter Tryz.func142, Tryz.ntmps142;go_wp2_with ((go_at_call 98; refine (zAo _ _ _ _).mono ?_; rintro e w' ⟨rfl, rfl⟩))
   go_ret
   exact ⟨rfl, HB.out _⟩
  ·by_cases h3 : 0 ≤ o
   ·by_cases h4 : s = 0
    ·subst h4;cases b
     ·by_cases h5 : k = 0
      ·subst h5;by_cases h6 : f = 0
       ·subst h6;by_cases h7 : l = 0
        ·subst h7;by_cases h8 : m = 0
         ·subst h8;by_cases h9 : d.length = 0
          ·have hz5 : d = [] := List.eq_nil_of_length_eq_zero h9;subst hz5;have HV : Hid ((zBw o 0 && (if false then zAL 0 0 0 0 ([] : List Int) else zBc 0 0 0 0 ([] : List Int))) = true) := by unfold Hid; simp [zBw, zBc, h1, h2, h3]
           rw [HV.out];go_enter Tryz.func142, Tryz.ntmps142;go_wp2_with ((go_at_call 98; refine (zAo _ _ _ _).mono ?_; rintro e w' ⟨rfl, rfl⟩))
           go_ret
           exact ⟨rfl, HB.out _⟩
          ·have hz4 : ¬ (d = []) := fun e => h9 (by rw [e]; rfl);have hz : ¬ ((d.length : Int) = 0) := by omega
           have hz2 : ((d.length : Int) == 0) = false := beq_false_of_ne hz;have HV : Hid ((zBw o 0 && (if false then zAL 0 0 0 0 d else zBc 0 0 0 0 d)) = false) := by unfold Hid; simp [zBw, zBc, h1, h2, h3, h9]
           rw [HV.out];go_enter Tryz.func142, Tryz.ntmps142;go_wp2_with ((go_at_call 98; refine (zAo _ _ _ _).mono ?_; rintro e w' ⟨rfl, rfl⟩))
           go_ret
           exact ⟨rfl, HB.out _⟩
         ·have h8b : (m == 0) = false := beq_false_of_ne h8;have HV : Hid ((zBw o 0 && (if false then zAL 0 0 0 m d else zBc 0 0 0 m d)) = false) := by unfold Hid; simp [zBw, zBc, h1, h2, h3, h8]
          rw [HV.out];go_enter Tryz.func142, Tryz.ntmps142;go_wp2_with ((go_at_call 98; refine (zAo _ _ _ _).mono ?_; rintro e w' ⟨rfl, rfl⟩))
          go_ret
          exact ⟨rfl, HB.out _⟩
        ·have h7b : (l == 0) = false := beq_false_of_ne h7;have HV : Hid ((zBw o 0 && (if false then zAL 0 0 l m d else zBc 0 0 l m d)) = false) := by unfold Hid; simp [zBw, zBc, h1, h2, h3, h7]
         rw [HV.out];go_enter Tryz.func142, Tryz.ntmps142;go_wp2_with ((go_at_call 98; refine (zAo _ _ _ _).mono ?_; rintro e w' ⟨rfl, rfl⟩))
         go_ret
         exact ⟨rfl, HB.out _⟩
       ·have h6b : (f == 0) = false := beq_false_of_ne h6;have HV : Hid ((zBw o 0 && (if false then zAL 0 f l m d else zBc 0 f l m d)) = false) := by unfold Hid; simp [zBw, zBc, h1, h2, h3, h6]
        rw [HV.out];go_enter Tryz.func142, Tryz.ntmps142;go_wp2_with ((go_at_call 98; refine (zAo _ _ _ _).mono ?_; rintro e w' ⟨rfl, rfl⟩))
        go_ret
        exact ⟨rfl, HB.out _⟩
      ·have h5b : (k == 0) = false := beq_false_of_ne h5;have HV : Hid ((zBw o 0 && (if false then zAL k f l m d else zBc k f l m d)) = false) := by unfold Hid; simp [zBw, zBc, h1, h2, h3, h5]
       rw [HV.out];go_enter Tryz.func142, Tryz.ntmps142;go_wp2_with ((go_at_call 98; refine (zAo _ _ _ _).mono ?_; rintro e w' ⟨rfl, rfl⟩))
       go_ret
       exact ⟨rfl, HB.out _⟩
     ·cases h10 : zA8 k 1 4
      ·have HV : Hid ((zBw o 0 && (if true then zAL k f l m d else zBc k f l m d)) = false) := by unfold Hid; simp [zBw, zAL, h1, h2, h3, h10]
       rw [HV.out];go_enter Tryz.func142, Tryz.ntmps142;go_wp2_with ((go_at_call 98; refine (zAo _ _ _ _).mono ?_; rintro e w' ⟨rfl, rfl⟩))
       go_ret
       exact ⟨rfl, HB.out _⟩
      ·cases h11 : zA8 l 0 4
       ·have HV : Hid ((zBw o 0 && (if true then zAL k f l m d else zBc k f l m d)) = false) := by unfold Hid; simp [zBw, zAL, h1, h2, h3, h10, h11]
        rw [HV.out];go_enter Tryz.func142, Tryz.ntmps142;go_wp2_with ((go_at_call 98; refine (zAo _ _ _ _).mono ?_; rintro e w' ⟨rfl, rfl⟩))
        go_ret
        exact ⟨rfl, HB.out _⟩
       ·by_cases h12 : k ≤ 2
        ·cases h13 : zA8 f 0 3
         ·have HV : Hid ((zBw o 0 && (if true then zAL k f l m d else zBc k f l m d)) = false) := by unfold Hid; simp [zBw, zAL, zCS, h1, h2, h3, h10, h11, h12, h13]
          rw [HV.out];go_enter Tryz.func142, Tryz.ntmps142;go_wp2_with ((go_at_call 98; refine (zAo _ _ _ _).mono ?_; rintro e w' ⟨rfl, rfl⟩))
          go_ret
          exact ⟨rfl, HB.out _⟩
         ·have h14 : ¬ k = 4 := by omega
          have h14b : (k == 4) = false := beq_false_of_ne h14;by_cases h15 : m = 0
          ·subst h15;by_cases h16 : d.length = 0
           ·have hz5 : d = [] := List.eq_nil_of_length_eq_zero h16;subst hz5;have HV : Hid ((zBw o 0 && (if true then zAL k f l 0 ([] : List Int) else zBc k f l 0 ([] : List Int))) = true) := by unfold Hid; simp [zBw, zAL, zCS, zDI, h1, h2, h3, h10, h11, h12, h13, h14]
            rw [HV.out];go_enter Tryz.func142, Tryz.ntmps142;go_wp2_with ((go_at_call 98; refine (zAo _ _ _ _).mono ?_; rintro e w' ⟨rfl, rfl⟩))
            go_ret
            exact ⟨rfl, HB.out _⟩
           ·have hz4 : ¬ (d = []) := fun e => h16 (by rw [e]; rfl);have hz : ¬ ((d.length : Int) = 0) := by omega
            have hz2 : ((d.length : Int) == 0) = false := beq_false_of_ne hz;have HV : Hid ((zBw o 0 && (if true then zAL k f l 0 d else zBc k f l 0 d)) = false) := by unfold Hid; simp [zBw, zAL, zCS, zDI, h1, h2, h3, h10, h11, h12, h13, h14, h16]
            rw [HV.out];go_enter Tryz.func142, Tryz.ntmps142;go_wp2_with ((go_at_call 98; refine (zAo _ _ _ _).mono ?_; rintro e w' ⟨rfl, rfl⟩))
            go_ret
            exact ⟨rfl, HB.out _⟩
          ·have h15b : (m == 0) = false := beq_false_of_ne h15;have HV : Hid ((zBw o 0 && (if true then zAL k f l m d else zBc k f l m d)) = false) := by unfold Hid; simp [zBw, zAL, zCS, zDI, h1, h2, h3, h10, h11, h12, h13, h14, h15]
           rw [HV.out];go_enter Tryz.func142, Tryz.ntmps142;go_wp2_with ((go_at_call 98; refine (zAo _ _ _ _).mono ?_; rintro e w' ⟨rfl, rfl⟩))
           go_ret
           exact ⟨rfl, HB.out _⟩
        ·by_cases h17 : f = 5
         ·subst h17;by_cases h18 : l = 0
          ·subst h18;have HV : Hid ((zBw o 0 && (if true then zAL k 5 0 m d else zBc k 5 0 m d)) = false) := by unfold Hid; simp [zBw, zAL, zCS, h1, h2, h3, h10, h11, h12]
           rw [HV.out];go_enter Tryz.func142, Tryz.ntmps142;go_wp2_with ((go_at_call 98; refine (zAo _ _ _ _).mono ?_; rintro e w' ⟨rfl, rfl⟩))
           go_ret
           exact ⟨rfl, HB.out _⟩
          ·have h18b : (l == 0) = false := beq_false_of_ne h18;by_cases h19 : k = 4
           ·subst h19;cases h20 : zA8 m 0 3
            ·have HV : Hid ((zBw o 0 && (if true then zAL 4 5 l m d else zBc 4 5 l m d)) = false) := by unfold Hid; simp [zBw, zAL, zCS, zDI, h1, h2, h3, h10, h11, h12, h18, h20]
             rw [HV.out];go_enter Tryz.func142, Tryz.ntmps142;go_wp2_with ((go_at_call 98; refine (zAo _ _ _ _).mono ?_; rintro e w' ⟨rfl, rfl⟩))
             go_ret
             exact ⟨rfl, HB.out _⟩
            ·cases h21 : isL d
             ·have HV : Hid ((zBw o 0 && (if true then zAL 4 5 l m d else zBc 4 5 l m d)) = false) := by unfold Hid; simp [zBw, zAL, zCS, zDI, h1, h2, h3, h10, h11, h12, h18, h20, h21]
              rw [HV.out];rw [h21] at HL;go_enter Tryz.func142, Tryz.ntmps142;go_wp2_with (first | (go_at_call 98; refine (zAo _ _ _ _).mono ?_; rintro e w' ⟨rfl, rfl⟩) | (go_at_call 144; refine (HL.out _ (HB.out _)).mono ?_; rintro e w' ⟨rfl, rfl⟩))
              go_ret
              exact ⟨rfl, HB.out _⟩
             ·have HV : Hid ((zBw o 0 && (if true then zAL 4 5 l m d else zBc 4 5 l m d)) = true) := by unfold Hid; simp [zBw, zAL, zCS, zDI, h1, h2, h3, h10, h11, h12, h18, h20, h21]
              rw [HV.out];rw [h21] at HL;go_enter Tryz.func142, Tryz.ntmps142;go_wp2_with (first | (go_at_call 98; refine (zAo _ _ _ _).mono ?_; rintro e w' ⟨rfl, rfl⟩) | (go_at_call 144; refine (HL.out _ (HB.out _)).mono ?_; rintro e w' ⟨rfl, rfl⟩))
              go_ret
              exact ⟨rfl, HB.out _⟩
           ·have h19b : (k == 4) = false := beq_false_of_ne h19;by_cases h22 : m = 0
            ·subst h22;by_cases h23 : d.length = 0
             ·have hz5 : d = [] := List.eq_nil_of_length_eq_zero h23;subst hz5;have HV : Hid ((zBw o 0 && (if true then zAL k 5 l 0 ([] : List Int) else zBc k 5 l 0 ([] : List Int))) = true) := by unfold Hid; simp [zBw, zAL, zCS, zDI, h1, h2, h3, h10, h11, h12, h18, h19]
              rw [HV.out];go_enter Tryz.func142, Tryz.ntmps142;go_wp2_with ((go_at_call 98; refine (zAo _ _ _ _).mono ?_; rintro e w' ⟨rfl, rfl⟩))
              go_ret
              exact ⟨rfl, HB.out _⟩
             ·have hz4 : ¬ (d = []) := fun e => h23 (by rw [e]; rfl);have hz : ¬ ((d.length : Int) = 0) := by omega
              have hz2 : ((d.length : Int) == 0) = false := beq_false_of_ne hz;have HV : Hid ((zBw o 0 && (if true then zAL k 5 l 0 d else zBc k 5 l 0 d)) = false) := by unfold Hid; simp [zBw, zAL, zCS, zDI, h1, h2, h3, h10, h11, h12, h18, h19, h23]
              rw [HV.out];go_enter Tryz.func142, Tryz.ntmps142;go_wp2_with ((go_at_call 98; refine (zAo _ _ _ _).mono ?_; rintro e w' ⟨rfl, rfl⟩))
              go_ret
              exact ⟨rfl, HB.out _⟩
            ·have h22b : (m == 0) = false := beq_false_of_ne h22;have HV : Hid ((zBw o 0 && (if true then zAL k 5 l m d else zBc k 5 l m d)) = false) := by unfold Hid; simp [zBw, zAL, zCS, zDI, h1, h2, h3, h10, h11, h12, h18, h19, h22]
             rw [HV.out];go_enter Tryz.func142, Tryz.ntmps142;go_wp2_with ((go_at_call 98; refine (zAo _ _ _ _).mono ?_; rintro e w' ⟨rfl, rfl⟩))
             go_ret
             exact ⟨rfl, HB.out _⟩
         ·have h17b : (f == 5) = false := beq_false_of_ne h17;have HV : Hid ((zBw o 0 && (if true then zAL k f l m d else zBc k f l m d)) = false) := by unfold Hid; simp [zBw, zAL, zCS, h1, h2, h3, h10, h11, h12, h17]
          rw [HV.out];go_enter Tryz.func142, Tryz.ntmps142;go_wp2_with ((go_at_call 98; refine (zAo _ _ _ _).mono ?_; rintro e w' ⟨rfl, rfl⟩))
          go_ret
          exact ⟨rfl, HB.out _⟩
    ·have h4b : (s == 0) = false := beq_false_of_ne h4;have HV : Hid ((zBw o s && (if b then zAL k f l m d else zBc k f l m d)) = false) := by unfold Hid; simp [zBw, h1, h2, h3, h4]
     rw [HV.out];go_enter Tryz.func142, Tryz.ntmps142;go_wp2_with ((go_at_call 98; refine (zAo _ _ _ _).mono ?_; rintro e w' ⟨rfl, rfl⟩))
     go_ret
     exact ⟨rfl, HB.out _⟩
   ·cases b
    ·by_cases h24 : k = 0
     ·subst h24;by_cases h25 : f = 0
      ·subst h25;by_cases h26 : l = 0
       ·subst h26;by_cases h27 : m = 0
        ·subst h27;by_cases h28 : d.length = 0
         ·have hz5 : d = [] := List.eq_nil_of_length_eq_zero h28;subst hz5;have HV : Hid ((zBw o s && (if false then zAL 0 0 0 0 ([] : List Int) else zBc 0 0 0 0 ([] : List Int))) = true) := by unfold Hid; simp [zBw, zBc, h1, h2, h3]
          rw [HV.out];go_enter Tryz.func142, Tryz.ntmps142;go_wp2_with ((go_at_call 98; refine (zAo _ _ _ _).mono ?_; rintro e w' ⟨rfl, rfl⟩))
          go_ret
          exact ⟨rfl, HB.out _⟩
         ·have hz4 : ¬ (d = []) := fun e => h28 (by rw [e]; rfl);have hz : ¬ ((d.length : Int) = 0) := by omega
          have hz2 : ((d.length : Int) == 0) = false := beq_false_of_ne hz;have HV : Hid ((zBw o s && (if false then zAL 0 0 0 0 d else zBc 0 0 0 0 d)) = false) := by unfold Hid; simp [zBw, zBc, h1, h2, h3, h28]
          rw [HV.out];go_enter Tryz.func142, Tryz.ntmps142;go_wp2_with ((go_at_call 98; refine (zAo _ _ _ _).mono ?_; rintro e w' ⟨rfl, rfl⟩))
          go_ret
          exact ⟨rfl, HB.out _⟩
        ·have h27b : (m == 0) = false := beq_false_of_ne h27;have HV : Hid ((zBw o s && (if false then zAL 0 0 0 m d else zBc 0 0 0 m d)) = false) := by unfold Hid; simp [zBw, zBc, h1, h2, h3, h27]
         rw [HV.out];go_enter Tryz.func142, Tryz.ntmps142;go_wp2_with ((go_at_call 98; refine (zAo _ _ _ _).mono ?_; rintro e w' ⟨rfl, rfl⟩))
         go_ret
         exact ⟨rfl, HB.out _⟩
       ·have h26b : (l == 0) = false := beq_false_of_ne h26;have HV : Hid ((zBw o s && (if false then zAL 0 0 l m d else zBc 0 0 l m d)) = false) := by unfold Hid; simp [zBw, zBc, h1, h2, h3, h26]
        rw [HV.out];go_enter Tryz.func142, Tryz.ntmps142;go_wp2_with ((go_at_call 98; refine (zAo _ _ _ _).mono ?_; rintro e w' ⟨rfl, rfl⟩))
        go_ret
        exact ⟨rfl, HB.out _⟩
      ·have h25b : (f == 0) = false := beq_false_of_ne h25;have HV : Hid ((zBw o s && (if false then zAL 0 f l m d else zBc 0 f l m d)) = false) := by unfold Hid; simp [zBw, zBc, h1, h2, h3, h25]
       rw [HV.out];go_enter Tryz.func142, Tryz.ntmps142;go_wp2_with ((go_at_call 98; refine (zAo _ _ _ _).mono ?_; rintro e w' ⟨rfl, rfl⟩))
       go_ret
       exact ⟨rfl, HB.out _⟩
     ·have h24b : (k == 0) = false := beq_false_of_ne h24;have HV : Hid ((zBw o s && (if false then zAL k f l m d else zBc k f l m d)) = false) := by unfold Hid; simp [zBw, zBc, h1, h2, h3, h24]
      rw [HV.out];go_enter Tryz.func142, Tryz.ntmps142;go_wp2_with ((go_at_call 98; refine (zAo _ _ _ _).mono ?_; rintro e w' ⟨rfl, rfl⟩))
      go_ret
      exact ⟨rfl, HB.out _⟩
    ·cases h29 : zA8 k 1 4
     ·have HV : Hid ((zBw o s && (if true then zAL k f l m d else zBc k f l m d)) = false) := by unfold Hid; simp [zBw, zAL, h1, h2, h3, h29]
      rw [HV.out];go_enter Tryz.func142, Tryz.ntmps142;go_wp2_with ((go_at_call 98; refine (zAo _ _ _ _).mono ?_; rintro e w' ⟨rfl, rfl⟩))
      go_ret
      exact ⟨rfl, HB.out _⟩
     ·cases h30 : zA8 l 0 4
      ·have HV : Hid ((zBw o s && (if true then zAL k f l m d else zBc k f l m d)) = false) := by unfold Hid; simp [zBw, zAL, h1, h2, h3, h29, h30]
       rw [HV.out];go_enter Tryz.func142, Tryz.ntmps142;go_wp2_with ((go_at_call 98; refine (zAo _ _ _ _).mono ?_; rintro e w' ⟨rfl, rfl⟩))
       go_ret
       exact ⟨rfl, HB.out _⟩
      ·by_cases h31 : k ≤ 2
       ·cases h32 : zA8 f 0 3
        ·have HV : Hid ((zBw o s && (if true then zAL k f l m d else zBc k f l m d)) = false) := by unfold Hid; simp [zBw, zAL, zCS, h1, h2, h3, h29, h30, h31, h32]
         rw [HV.out];go_enter Tryz.func142, Tryz.ntmps142;go_wp2_with ((go_at_call 98; refine (zAo _ _ _ _).mono ?_; rintro e w' ⟨rfl, rfl⟩))
         go_ret
         exact ⟨rfl, HB.out _⟩
        ·have h33 : ¬ k = 4 := by omega
         have h33b : (k == 4) = false := beq_false_of_ne h33;by_cases h34 : m = 0
         ·subst h34;by_cases h35 : d.length = 0
          ·have hz5 : d = [] := List.eq_nil_of_length_eq_zero h35;subst hz5;have HV : Hid ((zBw o s && (if true then zAL k f l 0 ([] : List Int) else zBc k f l 0 ([] : List Int))) = true) := by unfold Hid; simp [zBw, zAL, zCS, zDI, h1, h2, h3, h29, h30, h31, h32, h33]
           rw [HV.out];go_enter Tryz.func142, Tryz.ntmps142;go_wp2_with ((go_at_call 98; refine (zAo _ _ _ _).mono ?_; rintro e w' ⟨rfl, rfl⟩))
           go_ret
           exact ⟨rfl, HB.out _⟩
          ·have hz4 : ¬ (d = []) := fun e => h35 (by rw [e]; rfl);have hz : ¬ ((d.length : Int) = 0) := by omega
           have hz2 : ((d.length : Int) == 0) = false := beq_false_of_ne hz;have HV : Hid ((zBw o s && (if true then zAL k f l 0 d else zBc k f l 0 d)) = false) := by unfold Hid; simp [zBw, zAL, zCS, zDI, h1, h2, h3, h29, h30, h31, h32, h33, h35]
           rw [HV.out];go_enter Tryz.func142, Tryz.ntmps142;go_wp2_with ((go_at_call 98; refine (zAo _ _ _ _).mono ?_; rintro e w' ⟨rfl, rfl⟩))
           go_ret
           exact ⟨rfl, HB.out _⟩
         ·have h34b : (m == 0) = false := beq_false_of_ne h34;have HV : Hid ((zBw o s && (if true then zAL k f l m d else zBc k f l m d)) = false) := by unfold Hid; simp [zBw, zAL, zCS, zDI, h1, h2, h3, h29, h30, h31, h32, h33, h34]
          rw [HV.out];go_enter Tryz.func142, Tryz.ntmps142;go_wp2_with ((go_at_call 98; refine (zAo _ _ _ _).mono ?_; rintro e w' ⟨rfl, rfl⟩))
          go_ret
          exact ⟨rfl, HB.out _⟩
       ·by_cases h36 : f = 5
        ·subst h36;by_cases h37 : l = 0
         ·subst h37;have HV : Hid ((zBw o s && (if true then zAL k 5 0 m d else zBc k 5 0 m d)) = false) := by unfold Hid; simp [zBw, zAL, zCS, h1, h2, h3, h29, h30, h31]
          rw [HV.out];go_enter Tryz.func142, Tryz.ntmps142;go_wp2_with ((go_at_call 98; refine (zAo _ _ _ _).mono ?_; rintro e w' ⟨rfl, rfl⟩))
          go_ret
          exact ⟨rfl, HB.out _⟩
         ·have h37b : (l == 0) = false := beq_false_of_ne h37;by_cases h38 : k = 4
          ·subst h38;cases h39 : zA8 m 0 3
           ·have HV : Hid ((zBw o s && (if true then zAL 4 5 l m d else zBc 4 5 l m d)) = false) := by unfold Hid; simp [zBw, zAL, zCS, zDI, h1, h2, h3, h29, h30, h31, h37, h39]
            rw [HV.out];go_enter Tryz.func142, Tryz.ntmps142;go_wp2_with ((go_at_call 98; refine (zAo _ _ _ _).mono ?_; rintro e w' ⟨rfl, rfl⟩))
            go_ret
            exact ⟨rfl, HB.out _⟩
           ·cases h40 : isL d
            ·have HV : Hid ((zBw o s && (if true then zAL 4 5 l m d else zBc 4 5 l m d)) = false) := by unfold Hid; simp [zBw, zAL, zCS, zDI, h1, h2, h3, h29, h30, h31, h37, h39, h40]
             rw [HV.out];rw [h40] at HL;go_enter Tryz.func142, Tryz.ntmps142;go_wp2_with (first | (go_at_call 98; refine (zAo _ _ _ _).mono ?_; rintro e w' ⟨rfl, rfl⟩) | (go_at_call 144; refine (HL.out _ (HB.out _)).mono ?_; rintro e w' ⟨rfl, rfl⟩))
             go_ret
             exact ⟨rfl, HB.out _⟩
            ·have HV : Hid ((zBw o s && (if true then zAL 4 5 l m d else zBc 4 5 l m d)) = true) := by unfold Hid; simp [zBw, zAL, zCS, zDI, h1, h2, h3, h29, h30, h31, h37, h39, h40]
             rw [HV.out];rw [h40] at HL;go_enter Tryz.func142, Tryz.ntmps142;go_wp2_with (first | (go_at_call 98; refine (zAo _ _ _ _).mono ?_; rintro e w' ⟨rfl, rfl⟩) | (go_at_call 144; refine (HL.out _ (HB.out _)).mono ?_; rintro e w' ⟨rfl, rfl⟩))
             go_ret
             exact ⟨rfl, HB.out _⟩
          ·have h38b : (k == 4) = false := beq_false_of_ne h38;by_cases h41 : m = 0
           ·subst h41;by_cases h42 : d.length = 0
            ·have hz5 : d = [] := List.eq_nil_of_length_eq_zero h42;subst hz5;have HV : Hid ((zBw o s && (if true then zAL k 5 l 0 ([] : List Int) else zBc k 5 l 0 ([] : List Int))) = true) := by unfold Hid; simp [zBw, zAL, zCS, zDI, h1, h2, h3, h29, h30, h31, h37, h38]
             rw [HV.out];go_enter Tryz.func142, Tryz.ntmps142;go_wp2_with ((go_at_call 98; refine (zAo _ _ _ _).mono ?_; rintro e w' ⟨rfl, rfl⟩))
             go_ret
             exact ⟨rfl, HB.out _⟩
            ·have hz4 : ¬ (d = []) := fun e => h42 (by rw [e]; rfl);have hz : ¬ ((d.length : Int) = 0) := by omega
             have hz2 : ((d.length : Int) == 0) = false := beq_false_of_ne hz;have HV : Hid ((zBw o s && (if true then zAL k 5 l 0 d else zBc k 5 l 0 d)) = false) := by unfold Hid; simp [zBw, zAL, zCS, zDI, h1, h2, h3, h29, h30, h31, h37, h38, h42]
             rw [HV.out];go_enter Tryz.func142, Tryz.ntmps142;go_wp2_with ((go_at_call 98; refine (zAo _ _ _ _).mono ?_; rintro e w' ⟨rfl, rfl⟩))
             go_ret
             exact ⟨rfl, HB.out _⟩
           ·have h41b : (m == 0) = false := beq_false_of_ne h41;have HV : Hid ((zBw o s && (if true then zAL k 5 l m d else zBc k 5 l m d)) = false) := by unfold Hid; simp [zBw, zAL, zCS, zDI, h1, h2, h3, h29, h30, h31, h37, h38, h41]
            rw [HV.out];go_enter Tryz.func142, Tryz.ntmps142;go_wp2_with ((go_at_call 98; refine (zAo _ _ _ _).mono ?_; rintro e w' ⟨rfl, rfl⟩))
            go_ret
            exact ⟨rfl, HB.out _⟩
        ·have h36b : (f == 5) = false := beq_false_of_ne h36;have HV : Hid ((zBw o s && (if true then zAL k f l m d else zBc k f l m d)) = false) := by unfold Hid; simp [zBw, zAL, zCS, h1, h2, h3, h29, h30, h31, h36]
         rw [HV.out];go_enter Tryz.func142, Tryz.ntmps142;go_wp2_with ((go_at_call 98; refine (zAo _ _ _ _).mono ?_; rintro e w' ⟨rfl, rfl⟩))
         go_ret
         exact ⟨rfl, HB.out _⟩
end Go.Proofs.YtcocbafhcpdheaaGreatDoor
