import Derived.Test.YtoihjejenjcokaaGreatDoorP00Box
import Derived.Test.YtoihjejenjcokaaGreatDoorP03OpensBase
import Derived.Test.YtoihjejenjcokaaGreatDoorP02Nums
import Derived.WalkMore
import Derived.ScopeJumps
import Derived.Test.YtoihjejenjcokaaGreatDoorP08Iters
import Derived.Deep.DeepCutAuto
import Derived.BigRegion
namespace Go.Proofs.YtoihjejenjcokaaGreatDoor
set_option maxHeartbeats 2000000
open Go.ChangeShapes Go.WideShapes Go.ChangeAt Go.RowKit
theorem zCL (k : Int) (w : World) : Calls Tryz.prog 83 #[.int .i64 k] w fun e w' => e = .returned (.bool (okW k)) ∧ w' = w := by
 go_enter Tryz.func83, Tryz.ntmps83
 go_wp2_with (go_at_call 23; refine (zBa _ _ _ _).mono ?_; rintro e w' ⟨rfl, rfl⟩)
 go_ret
 exact ⟨rfl, rfl⟩
theorem zD2 (a : Option Addr) (n cap : Nat) (w : World) (hn : n ≠ 2) :
    Calls Tryz.prog 60 #[.slice a n cap] w fun e w' => e = .returned (.bool false) ∧ w' = w := by
 have hn' : ((n : Int) == 2) = false := by simp; omega
 go_enter Tryz.func60, Tryz.ntmps60
 go_wp2
 go_ret
 exact ⟨rfl, rfl⟩
theorem zHq (a : Option Addr) (x y : Int) (cap : Nat) (w : World) (h : zDF w a [x, y]) :
    Calls Tryz.prog 60 #[.slice a 2 cap] w fun e w' => e = .returned (.bool (okW x && okW y)) ∧ w' = w := by
 obtain ⟨b, off, rfl, c0, c1⟩ := zIL h
 clear h
 cases hx : okW x <;> cases hy : okW y
 all_goals
  go_enter Tryz.func60, Tryz.ntmps60
  go_wp2_with (go_at_call 83; refine (zCL _ _).mono ?_; rintro e w' ⟨rfl, rfl⟩)
  go_ret
  exact ⟨rfl, rfl⟩
theorem zD3 (a : Option Addr) (xs : List Int) (cap : Nat) (w : World) (h : zDF w a xs) :
    Calls Tryz.prog 60 #[.slice a xs.length cap] w fun e w' => e = .returned (.bool (isL xs)) ∧ w' = w := by
 match xs with
 | [x, y] => exact zHq a x y cap w h
 | [] => exact zD2 a 0 cap w (by simp)
 | [_] => exact zD2 a 1 cap w (by simp)
 | _ :: _ :: _ :: r => exact zD2 a (r.length + 1 + 1 + 1) cap w (by omega)
def orI (s i : Int) : Int := bits BinOp.or IntKind.i64 s (2 ^ i.toNat)
def zIb (s i : Int) : Int := bits BinOp.andNot IntKind.i64 s (2 ^ i.toNat)
def withI (s i : Int) : Int := if setB s then (if itemB i then orI s i else s) else -1
def withoutI (s i : Int) : Int := if setB s then (if itemB i then zIb s i else s) else -1
theorem with_in (s i : Int) (w : World) (h5 : 0 ≤ i) (h6 : i ≤ 7) :
    Calls Tryz.prog 164 #[.int .i64 s, .int .i64 i] w fun e w' => e = .returned (.int .i64 (orI s i)) ∧ w' = w := by
 go_enter Tryz.func164, Tryz.ntmps164
 go_wp2_with (go_at_call 165; refine (zIK _ _ h5 h6).mono ?_; rintro e w' ⟨rfl, rfl⟩)
 go_ret
 exact ⟨rfl, rfl⟩
theorem zLA (s i : Int) (w : World) (h5 : 0 ≤ i) (h6 : i ≤ 7) :
    Calls Tryz.prog 163 #[.int .i64 s, .int .i64 i] w fun e w' => e = .returned (.int .i64 (zIb s i)) ∧ w' = w := by
 go_enter Tryz.func163, Tryz.ntmps163
 go_wp2_with (go_at_call 165; refine (zIK _ _ h5 h6).mono ?_; rintro e w' ⟨rfl, rfl⟩)
 go_ret
 exact ⟨rfl, rfl⟩
def zHg (n : Int) : Bool := decide (n = 1 ∨ n = 2 ∨ n = 4)
theorem zCM (n : Int) (w : World) :
    Calls Tryz.prog 111 #[.int .i64 n] w fun e w' => e = .returned (.bool (zHg n)) ∧ w' = w := by
 go_enter Tryz.func111, Tryz.ntmps111
 go_wp2
 all_goals go_ret
 all_goals refine ⟨zA2 ?_, rfl⟩
 all_goals first | (simp_all [zHg]; done) | (rw [Bool.eq_iff_iff]; simp [zHg]; omega)
theorem zFm (n : Int) (w : World) :
    Calls Tryz.prog 81 #[.int .i64 n] w fun e w' => e = .returned (.bool (zHg n)) ∧ w' = w := by
 go_enter Tryz.func81, Tryz.ntmps81
 go_wp2
 all_goals go_ret
 all_goals refine ⟨zA2 ?_, rfl⟩
 all_goals first | (simp_all [zHg]; done) | (rw [Bool.eq_iff_iff]; simp [zHg]; omega)
def zAJ (t n : Int) : Bool := decide ((n = 1 ∧ t = 0) ∨ (n = 2 ∧ 0 ≤ t ∧ t ≤ 1) ∨ (n = 4 ∧ 0 ≤ t ∧ t ≤ 7))
theorem zLB (w : World) : Calls Tryz.prog 139 #[.int .i64 1] w fun e w' => e = .returned (.int .i64 0) ∧ w' = w := by
 go_enter Tryz.func139, Tryz.ntmps139
 go_wp2
 go_ret
 exact ⟨rfl, rfl⟩
theorem zLC (w : World) : Calls Tryz.prog 139 #[.int .i64 2] w fun e w' => e = .returned (.int .i64 1) ∧ w' = w := by
 go_enter Tryz.func139, Tryz.ntmps139
 go_wp2
 go_ret
 exact ⟨rfl, rfl⟩
theorem zLD (w : World) : Calls Tryz.prog 139 #[.int .i64 4] w fun e w' => e = .returned (.int .i64 7) ∧ w' = w := by
 go_enter Tryz.func139, Tryz.ntmps139
 go_wp2
 go_ret
 exact ⟨rfl, rfl⟩
theorem zC7 (t n : Int) (w : World) :
    Calls Tryz.prog 113 #[.int .i64 t, .int .i64 n] w fun e w' => e = .returned (.bool (zAJ t n)) ∧ w' = w := by
 cases h : zHg n
 ·have H : Hid (zAJ t n = false) := by
    unfold Hid
    simp [zHg] at h
    simp [zAJ]
    omega
  go_enter Tryz.func113, Tryz.ntmps113
  go_wp2_with (go_at_call 111; refine (zCM _ _).mono ?_; rintro e w' ⟨rfl, rfl⟩)
  go_ret
  exact ⟨zA2 H.out.symm, rfl⟩
 ·have h3 : n = 1 ∨ n = 2 ∨ n = 4 := by simpa [zHg] using h
  rcases h3 with rfl | rfl | rfl
  ·have H : Hid (zAJ t 1 = zAQ t 0 0) := by
     unfold Hid
     rw [Bool.eq_iff_iff]
     simp [zAJ, zAQ]
     omega
   go_enter Tryz.func113, Tryz.ntmps113
   go_wp2_with (first
    | (go_at_call 111; refine (zCM _ _).mono ?_; rintro e w' ⟨rfl, rfl⟩)
    | (go_at_call 139; refine (zLB _).mono ?_; rintro e w' ⟨rfl, rfl⟩)
    | (go_at_call 68; refine (zBe _ _ _ _).mono ?_; rintro e w' ⟨rfl, rfl⟩))
   go_ret
   exact ⟨zA2 H.out.symm, rfl⟩
  ·have H : Hid (zAJ t 2 = zAQ t 0 1) := by
     unfold Hid
     rw [Bool.eq_iff_iff]
     simp [zAJ, zAQ]
   go_enter Tryz.func113, Tryz.ntmps113
   go_wp2_with (first
    | (go_at_call 111; refine (zCM _ _).mono ?_; rintro e w' ⟨rfl, rfl⟩)
    | (go_at_call 139; refine (zLC _).mono ?_; rintro e w' ⟨rfl, rfl⟩)
    | (go_at_call 68; refine (zBe _ _ _ _).mono ?_; rintro e w' ⟨rfl, rfl⟩))
   go_ret
   exact ⟨zA2 H.out.symm, rfl⟩
  ·have H : Hid (zAJ t 4 = zAQ t 0 7) := by
     unfold Hid
     rw [Bool.eq_iff_iff]
     simp [zAJ, zAQ]
   go_enter Tryz.func113, Tryz.ntmps113
   go_wp2_with (first
    | (go_at_call 111; refine (zCM _ _).mono ?_; rintro e w' ⟨rfl, rfl⟩)
    | (go_at_call 139; refine (zLD _).mono ?_; rintro e w' ⟨rfl, rfl⟩)
    | (go_at_call 68; refine (zBe _ _ _ _).mono ?_; rintro e w' ⟨rfl, rfl⟩))
   go_ret
   exact ⟨zA2 H.out.symm, rfl⟩
theorem zEL (t n : Int) (w : World) :
    Calls Tryz.prog 82 #[.int .i64 t, .int .i64 n] w fun e w' => e = .returned (.bool (zAJ t n)) ∧ w' = w := by
 by_cases h1 : n = 1
 ·subst h1
  have H : Hid (zAJ t 1 = (t == 0)) := by
   unfold Hid
   rw [Bool.eq_iff_iff]
   simp [zAJ]
  go_enter Tryz.func82, Tryz.ntmps82
  go_wp2_with fail
  go_ret
  exact ⟨zA2 H.out.symm, rfl⟩
 by_cases h2 : n = 2
 ·subst h2
  have H : Hid (zAJ t 2 = zAQ t 0 1) := by
   unfold Hid
   rw [Bool.eq_iff_iff]
   simp [zAJ, zAQ]
  go_enter Tryz.func82, Tryz.ntmps82
  go_wp2_with (go_at_call 23; refine (zBa _ _ _ _).mono ?_; rintro e w' ⟨rfl, rfl⟩)
  go_ret
  exact ⟨zA2 H.out.symm, rfl⟩
 by_cases h4 : n = 4
 ·subst h4
  have H : Hid (zAJ t 4 = zAQ t 0 7) := by
   unfold Hid
   rw [Bool.eq_iff_iff]
   simp [zAJ, zAQ]
  go_enter Tryz.func82, Tryz.ntmps82
  go_wp2_with (go_at_call 23; refine (zBa _ _ _ _).mono ?_; rintro e w' ⟨rfl, rfl⟩)
  go_ret
  exact ⟨zA2 H.out.symm, rfl⟩
 have H : Hid (zAJ t n = false) := by
  unfold Hid
  simp [zAJ]
  omega
 go_enter Tryz.func82, Tryz.ntmps82
 go_wp2_with fail
 go_ret
 exact ⟨zA2 H.out.symm, rfl⟩
def otherI (x : Int) : Int := bits BinOp.xor IntKind.i64 x 1
theorem zCj (x y : Int) (h : otherI x = y) (w : World) :
    Calls Tryz.prog 161 #[.int .i64 x] w fun e w' => e = .returned (.int .i64 y) ∧ w' = w := by
 have H : Hid _ := h
 clear h
 go_enter Tryz.func161, Tryz.ntmps161
 go_wp2
 go_ret
 exact ⟨zAW H.out, rfl⟩
theorem zBK (n p y : Int) (h : (n = 2 ∧ p = 0 ∧ y = 0) ∨ (n = 4 ∧ p = 0 ∧ y = 1) ∨ (n = 4 ∧ p = 1 ∧ y = 2)) (w : World) :
    Calls Tryz.prog 162 #[.int .i64 n, .int .i64 p] w fun e w' => e = .returned (.int .i64 y) ∧ w' = w := by
 rcases h with ⟨rfl, rfl, rfl⟩ | ⟨rfl, rfl, rfl⟩ | ⟨rfl, rfl, rfl⟩
 all_goals
  go_enter Tryz.func162, Tryz.ntmps162
  go_wp2
  go_ret
  exact ⟨rfl, rfl⟩
def zJZ (t b o : Int) : Int := if o = 0 then zIb t b else orI t b
theorem zCk (t b o : Int) (h5 : 0 ≤ b) (h6 : b ≤ 7) (w : World) :
    Calls Tryz.prog 160 #[.int .i64 t, .int .i64 b, .int .i64 o] w fun e w' => e = .returned (.int .i64 (zJZ t b o)) ∧ w' = w := by
 by_cases h : o = 0
 ·have H : Hid (zJZ t b o = zIb t b) := by unfold Hid; simp [zJZ, h]
  go_enter Tryz.func160, Tryz.ntmps160
  go_wp2_with (go_at_call 163; refine (zLA _ _ _ h5 h6).mono ?_; rintro e w' ⟨rfl, rfl⟩)
  go_ret
  exact ⟨zAW H.out.symm, rfl⟩
 ·have H : Hid (zJZ t b o = orI t b) := by unfold Hid; simp [zJZ, h]
  go_enter Tryz.func160, Tryz.ntmps160
  go_wp2_with (go_at_call 164; refine (with_in _ _ _ h5 h6).mono ?_; rintro e w' ⟨rfl, rfl⟩)
  go_ret
  exact ⟨zAW H.out.symm, rfl⟩
theorem zLe (n y : Int) (h : n = 1 ∨ n = 2 ∨ n = 4) (w : World) :
    Calls Tryz.prog 157 #[.int .i64 n, .int .i64 y] w fun e w' => e = .returned (.bool (zAQ y 0 (n - 1))) ∧ w' = w := by
 rcases h with rfl | rfl | rfl
 all_goals
  go_enter Tryz.func157, Tryz.ntmps157
  go_wp2_with (go_at_call 68; refine (zBe _ _ _ _).mono ?_; rintro e w' ⟨rfl, rfl⟩)
  go_ret
  exact ⟨rfl, rfl⟩
end Go.Proofs.YtoihjejenjcokaaGreatDoor
namespace Go
theorem zDN {P : Program} {a : Act} {w : World} {Q : Exit → Act → World → Prop} {c rest : Code} (l : Nat) (hf : findLabel c l = some rest)
    (first : c.wp P (Exit.jump l (fun a w => rest.wp P (Exit.noGoto Q) a w) Q) a w) : (Code.scope c).wp P Q a w := by
 refine wp_scope_jumps l (fun a w => rest.wp P (Exit.noGoto Q) a w) (fun _ _ => 0) hf first ?_
 intro a w h
 refine wp_mono h ?_
 intro e a' w' h'
 cases e <;> simp_all [Exit.noGoto, Exit.jump]
end Go
namespace Go.Proofs.YtoihjejenjcokaaGreatDoor
open Go.ChangeShapes Go.WideShapes Go.ChangeAt Go.RowKit
def zCU (t n y : Int) : Int := if n = 1 then t else if n = 2 then zJZ t 0 (1 - y) else zJZ (zJZ t 0 (1 - y / 2)) (1 + y / 2) (1 - y % 2)
theorem zMG (t y : Int) (w : World) (hy : y = 0) :
    Calls Tryz.prog 158 #[.int .i64 t, .int .i64 1, .int .i64 y] w fun e w' => e = .returned (.int .i64 t) ∧ w' = w := by
 subst hy
 go_enter Tryz.func158, Tryz.ntmps158
 go_wp2
 refine zDN 0 rfl ?_
 go_wp2
 go_step3
 refine ⟨rfl, ?_⟩
 go_wp2
 rw [Exit.noGoto_ret]
 go_ret
 exact ⟨rfl, rfl⟩
theorem zMH (t y : Int) (w : World) (hy : y = 0 ∨ y = 1) :
    Calls Tryz.prog 158 #[.int .i64 t, .int .i64 2, .int .i64 y] w fun e w' => e = .returned (.int .i64 (zJZ t 0 (1 - y))) ∧ w' = w := by
 rcases hy with rfl | rfl
 ·go_enter Tryz.func158, Tryz.ntmps158
  go_wp2
  refine zDN 1 rfl ?_
  go_wp2
  go_step3
  refine ⟨rfl, ?_⟩
  go_wp2_with (first
   | (go_at_call 162; refine (zBK _ _ 0 (by omega) _).mono ?_; rintro e w' ⟨rfl, rfl⟩)
   | (go_at_call 161; refine (zCj _ 1 (by decide) _).mono ?_; rintro e w' ⟨rfl, rfl⟩)
   | (go_at_call 160; refine (zCk _ _ _ (by omega) (by omega) _).mono ?_; rintro e w' ⟨rfl, rfl⟩))
  go_step3
  go_wp2
  rw [Exit.noGoto_ret]
  go_ret
  exact ⟨rfl, rfl⟩
 ·go_enter Tryz.func158, Tryz.ntmps158
  go_wp2
  refine zDN 1 rfl ?_
  go_wp2
  go_step3
  refine ⟨rfl, ?_⟩
  go_wp2_with (first
   | (go_at_call 162; refine (zBK _ _ 0 (by omega) _).mono ?_; rintro e w' ⟨rfl, rfl⟩)
   | (go_at_call 161; refine (zCj _ 0 (by decide) _).mono ?_; rintro e w' ⟨rfl, rfl⟩)
   | (go_at_call 160; refine (zCk _ _ _ (by omega) (by omega) _).mono ?_; rintro e w' ⟨rfl, rfl⟩))
  go_step3
  go_wp2
  rw [Exit.noGoto_ret]
  go_ret
  exact ⟨rfl, rfl⟩
theorem zMI (t y : Int) (w : World) (hy : y = 0 ∨ y = 1 ∨ y = 2 ∨ y = 3) :
    Calls Tryz.prog 158 #[.int .i64 t, .int .i64 4, .int .i64 y] w fun e w' => e = .returned (.int .i64 (zJZ (zJZ t 0 (1 - y / 2)) (1 + y / 2) (1 - y % 2))) ∧ w' = w := by
 rcases hy with rfl | rfl | rfl | rfl
 ·go_enter Tryz.func158, Tryz.ntmps158
  go_wp2
  go_step3
  go_wp2_with (first
   | (go_at_call 162; refine (zBK _ _ 1 (by omega) _).mono ?_; rintro e w' ⟨rfl, rfl⟩)
   | (go_at_call 161; refine (zCj _ 1 (by decide) _).mono ?_; rintro e w' ⟨rfl, rfl⟩)
   | (go_at_call 160; refine (zCk _ _ _ (by omega) (by omega) _).mono ?_; rintro e w' ⟨rfl, rfl⟩))
  go_step3
  go_wp2_with (first
   | (go_at_call 162; refine (zBK _ _ 1 (by omega) _).mono ?_; rintro e w' ⟨rfl, rfl⟩)
   | (go_at_call 161; refine (zCj _ 1 (by decide) _).mono ?_; rintro e w' ⟨rfl, rfl⟩)
   | (go_at_call 160; refine (zCk _ _ _ (by omega) (by omega) _).mono ?_; rintro e w' ⟨rfl, rfl⟩))
  go_step3
  go_wp2
  rw [Exit.noGoto_ret]
  go_ret
  exact ⟨rfl, rfl⟩
 ·go_enter Tryz.func158, Tryz.ntmps158
  go_wp2
  go_step3
  go_wp2_with (first
   | (go_at_call 162; refine (zBK _ _ 1 (by omega) _).mono ?_; rintro e w' ⟨rfl, rfl⟩)
   | (go_at_call 161; refine (zCj _ 1 (by decide) _).mono ?_; rintro e w' ⟨rfl, rfl⟩)
   | (go_at_call 160; refine (zCk _ _ _ (by omega) (by omega) _).mono ?_; rintro e w' ⟨rfl, rfl⟩))
  go_step3
  go_wp2_with (first
   | (go_at_call 162; refine (zBK _ _ 1 (by omega) _).mono ?_; rintro e w' ⟨rfl, rfl⟩)
   | (go_at_call 161; refine (zCj _ 0 (by decide) _).mono ?_; rintro e w' ⟨rfl, rfl⟩)
   | (go_at_call 160; refine (zCk _ _ _ (by omega) (by omega) _).mono ?_; rintro e w' ⟨rfl, rfl⟩))
  go_step3
  go_wp2
  rw [Exit.noGoto_ret]
  go_ret
  exact ⟨rfl, rfl⟩
 ·go_enter Tryz.func158, Tryz.ntmps158
  go_wp2
  go_step3
  go_wp2_with (first
   | (go_at_call 162; refine (zBK _ _ 2 (by omega) _).mono ?_; rintro e w' ⟨rfl, rfl⟩)
   | (go_at_call 161; refine (zCj _ 0 (by decide) _).mono ?_; rintro e w' ⟨rfl, rfl⟩)
   | (go_at_call 160; refine (zCk _ _ _ (by omega) (by omega) _).mono ?_; rintro e w' ⟨rfl, rfl⟩))
  go_step3
  go_wp2_with (first
   | (go_at_call 162; refine (zBK _ _ 2 (by omega) _).mono ?_; rintro e w' ⟨rfl, rfl⟩)
   | (go_at_call 161; refine (zCj _ 1 (by decide) _).mono ?_; rintro e w' ⟨rfl, rfl⟩)
   | (go_at_call 160; refine (zCk _ _ _ (by omega) (by omega) _).mono ?_; rintro e w' ⟨rfl, rfl⟩))
  go_step3
  go_wp2
  rw [Exit.noGoto_ret]
  go_ret
  exact ⟨rfl, rfl⟩
 ·go_enter Tryz.func158, Tryz.ntmps158
  go_wp2
  go_step3
  go_wp2_with (first
   | (go_at_call 162; refine (zBK _ _ 2 (by omega) _).mono ?_; rintro e w' ⟨rfl, rfl⟩)
   | (go_at_call 161; refine (zCj _ 0 (by decide) _).mono ?_; rintro e w' ⟨rfl, rfl⟩)
   | (go_at_call 160; refine (zCk _ _ _ (by omega) (by omega) _).mono ?_; rintro e w' ⟨rfl, rfl⟩))
  go_step3
  go_wp2_with (first
   | (go_at_call 162; refine (zBK _ _ 2 (by omega) _).mono ?_; rintro e w' ⟨rfl, rfl⟩)
   | (go_at_call 161; refine (zCj _ 0 (by decide) _).mono ?_; rintro e w' ⟨rfl, rfl⟩)
   | (go_at_call 160; refine (zCk _ _ _ (by omega) (by omega) _).mono ?_; rintro e w' ⟨rfl, rfl⟩))
  go_step3
  go_wp2
  rw [Exit.noGoto_ret]
  go_ret
  exact ⟨rfl, rfl⟩
def tuI (t n y : Int) : Int := if zAJ t n && zAQ y 0 (n - 1) then zCU t n y else -1
theorem zIc {t n : Int} (h : zAJ t n = true) : n = 1 ∨ n = 2 ∨ n = 4 := by
 simp [zAJ] at h
 omega
theorem zG7 (t n y : Int) (w : World) :
    Calls Tryz.prog 152 #[.int .i64 t, .int .i64 n, .int .i64 y] w fun e w' => e = .returned (.int .i64 (tuI t n y)) ∧ w' = w := by
 cases h1 : zAJ t n
 ·have H : Hid (tuI t n y = -1) := by unfold Hid; simp [tuI, h1]
  go_enter Tryz.func152, Tryz.ntmps152
  go_wp2_with (go_at_call 113; refine (zC7 _ _ _).mono ?_; rintro e w' ⟨rfl, rfl⟩)
  go_ret
  exact ⟨zAW H.out.symm, rfl⟩
 have hp := zIc h1
 cases h2 : zAQ y 0 (n - 1)
 ·have H : Hid (tuI t n y = -1) := by unfold Hid; simp [tuI, h2]
  have hp' : Hid _ := hp
  clear hp
  go_enter Tryz.func152, Tryz.ntmps152
  go_wp2_with (first
   | (go_at_call 113; refine (zC7 _ _ _).mono ?_; rintro e w' ⟨rfl, rfl⟩)
   | (go_at_call 157; refine (zLe _ _ hp'.out _).mono ?_; rintro e w' ⟨rfl, rfl⟩))
  go_ret
  exact ⟨zAW H.out.symm, rfl⟩
 ·have H : Hid (tuI t n y = zCU t n y) := by unfold Hid; simp [tuI, h1, h2]
  have hb : 0 ≤ y ∧ y ≤ n - 1 := by simpa [zAQ] using h2
  have hp' : Hid _ := hp
  have C : ∀ w, Calls Tryz.prog 158 #[.int .i64 t, .int .i64 n, .int .i64 y] w fun e w' => e = .returned (.int .i64 (zCU t n y)) ∧ w' = w := by
   intro w
   rcases hp with rfl | rfl | rfl
   ·exact zMG t y w (by omega)
   ·exact zMH t y w (by omega)
   ·exact zMI t y w (by omega)
  have C' : Hid _ := C
  clear C hp hb
  go_enter Tryz.func152, Tryz.ntmps152
  go_wp2_with (first
   | (go_at_call 113; refine (zC7 _ _ _).mono ?_; rintro e w' ⟨rfl, rfl⟩)
   | (go_at_call 157; refine (zLe _ _ hp'.out _).mono ?_; rintro e w' ⟨rfl, rfl⟩)
   | (go_at_call 158; refine (C'.out _).mono ?_; rintro e w' ⟨rfl, rfl⟩))
  go_ret
  exact ⟨zAW H.out.symm, rfl⟩
theorem zKc (t y : Int) (w : World) :
    Calls Tryz.prog 110 #[.int .i64 t, .int .i64 1, .int .i64 y] w fun e w' => e = .returned (.int .i64 t) ∧ w' = w := by
 go_enter Tryz.func110, Tryz.ntmps110
 go_wp2
 go_ret
 exact ⟨rfl, rfl⟩
theorem zKd (t y : Int) (w : World) (ht : t = 0 ∨ t = 1) (hy : y = 0 ∨ y = 1) :
    Calls Tryz.prog 110 #[.int .i64 t, .int .i64 2, .int .i64 y] w fun e w' => e = .returned (.int .i64 (zJZ t 0 (1 - y))) ∧ w' = w := by
 have H : Hid (1 - y = zJZ t 0 (1 - y)) := by
  unfold Hid
  rcases ht with rfl | rfl <;> rcases hy with rfl | rfl <;> decide
 go_enter Tryz.func110, Tryz.ntmps110
 go_wp2
 go_ret
 exact ⟨zAW H.out, rfl⟩
theorem eight {t : Int} (h : 0 ≤ t ∧ t ≤ 7) : t = 0 ∨ t = 1 ∨ t = 2 ∨ t = 3 ∨ t = 4 ∨ t = 5 ∨ t = 6 ∨ t = 7 := by omega
theorem zKe (t y : Int) (w : World) (ht : 0 ≤ t ∧ t ≤ 7) (hy : y = 0 ∨ y = 1 ∨ y = 2 ∨ y = 3) :
    Calls Tryz.prog 110 #[.int .i64 t, .int .i64 4, .int .i64 y] w fun e w' => e = .returned (.int .i64 (zJZ (zJZ t 0 (1 - y / 2)) (1 + y / 2) (1 - y % 2))) ∧ w' = w := by
 have ht' : Hid _ := ht
 clear ht
 rcases hy with rfl | rfl | rfl | rfl
 all_goals
  go_enter Tryz.func110, Tryz.ntmps110
  go_wp2
  go_ret
  refine ⟨zAW ?_, rfl⟩
  rcases eight ht'.out with rfl | rfl | rfl | rfl | rfl | rfl | rfl | rfl <;> decide +kernel
def goI (t n : Int) : Int := if n = 1 then 0 else if n = 2 then t else 2 * (t % 2) + t / 2 ^ (1 + t % 2).toNat % 2
def viI (t n : Int) : Int := if zAJ t n then goI t n else -1
open Go.ChangeShapes Go.WideShapes Go.ChangeAt Go.RowKit Go.Shelf
set_option linter.unusedVariables false
theorem zBI (k : Int) (w : World) : Calls Tryz.prog 33 #[.int .i64 k] w fun e w' => e = .returned (.bool (zAQ k 0 15)) ∧ w' = w := by
 go_enter Tryz.func33, Tryz.ntmps33
 go_wp2_with (go_at_call 68; refine (zBe _ _ _ _).mono ?_; rintro e w' ⟨rfl, rfl⟩)
 go_ret
 exact ⟨rfl, rfl⟩
def zHr (l s : Int) (n : Nat) : Bool := decide (l = -1 ∧ s = 0 ∧ n = 0)
theorem zHA (u : zAU) : zHr u.1 u.2.1 u.2.2.length = zB7 u := by
 simp [zHr, zB7]
theorem zDO (l s : Int) (a : Option Addr) (n cap : Nat) (w : World) (hn : n ≤ maxLen) :
    Calls Tryz.prog 94 #[.agg #[.int .i64 l, .int .i64 s, .slice a n cap]] w fun e w' => e = .returned (.bool (zHr l s n)) ∧ Below w.heap.size w w' := by
 have hn' : n ≤ 9223372036854775807 := hn
 clear hn
 by_cases h1 : l = -1
 ·by_cases h2 : s = 0
  ·by_cases h3 : n = 0
   ·have H : Hid (zHr l s n = true) := by simp [Hid, zHr, h1, h2, h3]
    subst h1 h2 h3
    go_enter Tryz.func94, Tryz.ntmps94
    go_wp2
    go_ret
    exact ⟨zA2 H.out.symm, zAf w _⟩
   ·have H : Hid (zHr l s n = false) := by simp [Hid, zHr, h3]
    have h3' : ((n : Int) == 0) = false := by simp; omega
    subst h1 h2
    go_enter Tryz.func94, Tryz.ntmps94
    go_wp2
    go_ret
    exact ⟨zA2 H.out.symm, zAf w _⟩
  ·have H : Hid (zHr l s n = false) := by simp [Hid, zHr, h2]
   have h2' : (s == 0) = false := by simpa using h2
   subst h1
   go_enter Tryz.func94, Tryz.ntmps94
   go_wp2
   go_ret
   exact ⟨zA2 H.out.symm, zAf w _⟩
 ·have H : Hid (zHr l s n = false) := by simp [Hid, zHr, h1]
  have h1' : (l == -1) = false := by simpa using h1
  go_enter Tryz.func94, Tryz.ntmps94
  go_wp2
  go_ret
  exact ⟨zA2 H.out.symm, zAf w _⟩
theorem zDP (l s : Int) (a : Option Addr) (n cap : Nat) (w : World) (hn : n ≤ maxLen) :
    Calls Tryz.prog 52 #[.agg #[.int .i64 l, .int .i64 s, .slice a n cap]] w fun e w' => e = .returned (.bool (zHr l s n)) ∧ Below w.heap.size w w' := by
 have hn' : n ≤ 9223372036854775807 := hn
 clear hn
 by_cases h1 : l = -1
 ·by_cases h2 : s = 0
  ·by_cases h3 : n = 0
   ·have H : Hid (zHr l s n = true) := by simp [Hid, zHr, h1, h2, h3]
    subst h1 h2 h3
    go_enter Tryz.func52, Tryz.ntmps52
    go_wp2
    go_ret
    exact ⟨zA2 H.out.symm, zAf w _⟩
   ·have H : Hid (zHr l s n = false) := by simp [Hid, zHr, h3]
    have h3' : ((n : Int) == 0) = false := by simp; omega
    subst h1 h2
    go_enter Tryz.func52, Tryz.ntmps52
    go_wp2
    go_ret
    exact ⟨zA2 H.out.symm, zAf w _⟩
  ·have H : Hid (zHr l s n = false) := by simp [Hid, zHr, h2]
   have h2' : (s == 0) = false := by simpa using h2
   subst h1
   go_enter Tryz.func52, Tryz.ntmps52
   go_wp2
   go_ret
   exact ⟨zA2 H.out.symm, zAf w _⟩
 ·have H : Hid (zHr l s n = false) := by simp [Hid, zHr, h1]
  have h1' : (l == -1) = false := by simpa using h1
  go_enter Tryz.func52, Tryz.ntmps52
  go_wp2
  go_ret
  exact ⟨zA2 H.out.symm, zAf w _⟩
theorem zKf (ln : List Int → Bool) (u : zAU) : zBi ln u = (zAQ u.1 0 15 && (zAQ u.2.1 1 3 && ln u.2.2)) := by
 simp [zBi, zAQ, Bool.decide_and]
theorem zDw (l s : Int) (d : List Int) (a : Option Addr) (cap : Nat) (w : World) (h : zBh zBC w a d) :
    Calls Tryz.prog 96 #[.agg #[.int .i64 l, .int .i64 s, .slice a d.length cap]] w fun e w' => e = .returned (.bool (zBi isL (l, s, d))) ∧ Below w.heap.size w w' := by
 rw [zKf]
 have HB : Hid _ := zAf w
 have hr : Hid (∀ o, zDF (w.alloc o) a d) := fun o => zCw (zAG h (zAf w o))
 clear h
 cases h1 : zAQ l 0 15
 ·go_enter Tryz.func96, Tryz.ntmps96
  go_wp2_with (go_at_call 33; refine (zBI _ _).mono ?_; rintro e w' ⟨rfl, rfl⟩)
  go_ret
  exact ⟨rfl, HB.out _⟩
 ·cases h2 : zAQ s 1 3
  ·go_enter Tryz.func96, Tryz.ntmps96
   go_wp2_with (first
    | (go_at_call 33; refine (zBI _ _).mono ?_; rintro e w' ⟨rfl, rfl⟩)
    | (go_at_call 68; refine (zBe _ _ _ _).mono ?_; rintro e w' ⟨rfl, rfl⟩))
   go_ret
   exact ⟨rfl, HB.out _⟩
  ·go_enter Tryz.func96, Tryz.ntmps96
   go_wp2_with (first
    | (go_at_call 33; refine (zBI _ _).mono ?_; rintro e w' ⟨rfl, rfl⟩)
    | (go_at_call 68; refine (zBe _ _ _ _).mono ?_; rintro e w' ⟨rfl, rfl⟩)
    | (go_at_call 119; refine (zHm _ d _ _ (hr.out _)).mono ?_; rintro e w' ⟨rfl, hb⟩))
   go_ret
   exact ⟨rfl, zAb (HB.out _) hb⟩
theorem zE6 (l s : Int) (d : List Int) (a : Option Addr) (cap : Nat) (w : World) (h : zBh zBC w a d) :
    Calls Tryz.prog 53 #[.agg #[.int .i64 l, .int .i64 s, .slice a d.length cap]] w fun e w' => e = .returned (.bool (zBi isL (l, s, d))) ∧ Below w.heap.size w w' := by
 rw [zKf]
 have HB : Hid _ := zAf w
 have hr : Hid (∀ o, zDF (w.alloc o) a d) := fun o => zCw (zAG h (zAf w o))
 clear h
 cases h1 : zAQ l 0 15
 ·go_enter Tryz.func53, Tryz.ntmps53
  go_wp2_with (go_at_call 23; refine (zBa _ _ _ _).mono ?_; rintro e w' ⟨rfl, rfl⟩)
  go_ret
  exact ⟨rfl, HB.out _⟩
 ·cases h2 : zAQ s 1 3
  ·go_enter Tryz.func53, Tryz.ntmps53
   go_wp2_with (go_at_call 23; refine (zBa _ _ _ _).mono ?_; rintro e w' ⟨rfl, rfl⟩)
   go_ret
   exact ⟨rfl, HB.out _⟩
  ·go_enter Tryz.func53, Tryz.ntmps53
   go_wp2_with (first
    | (go_at_call 23; refine (zBa _ _ _ _).mono ?_; rintro e w' ⟨rfl, rfl⟩)
    | (go_at_call 60; refine (zD3 _ d _ _ (hr.out _)).mono ?_; rintro e w' ⟨rfl, rfl⟩))
   go_ret
   exact ⟨rfl, HB.out _⟩
theorem zGl (b off s cap : Nat) (v : Value) (b1 : Option Addr) (n1 c1 : Nat) (hv : v = .slice b1 n1 c1) (a1 : Option Addr) (m cp : Nat) (w : World) (hs : 0 < s) (h : w.cell? ⟨b, off, none⟩ = some (.slice a1 m cp)) :
    Calls Tryz.prog 112 #[.agg #[.slice (some ⟨b, off, none⟩) s cap, v]] w fun e w' => e = .returned (.int .i64 m) ∧ Below w.heap.size w w' := by
 subst hv
 have l0 := World.block_lt_of_cell? w _ h
 simp only at l0
 have HB : Hid _ := zAf w
 go_enter Tryz.func112, Tryz.ntmps112
 go_wp2
 go_ret
 exact ⟨rfl, HB.out _⟩
theorem zG8 (a : Option Addr) (s cap : Nat) (v : Value) (b1 : Option Addr) (n1 c1 : Nat) (hv : v = .slice b1 n1 c1) (line : Int) (w : World) (hs : s = 1 ∨ s = 2 ∨ s = 4) (h0 : 0 ≤ line) :
    Calls Tryz.prog 114 #[.agg #[.slice a s cap, v], .int .i64 line] w fun e w' => e = .returned (.int .i64 (line % (s : Int))) ∧ Below w.heap.size w w' := by
 subst hv
 have HB : Hid _ := zAf w
 rcases hs with rfl | rfl | rfl
 all_goals
  go_enter Tryz.func114, Tryz.ntmps114
  go_wp2
  go_ret
  exact ⟨zAW (by omega), HB.out _⟩
def zCB (c : zAu) : Nat := (c.1.getD 0 []).length
def zFn (c : zAu) (i : Nat) : Prop := ∀ row t, c.1[i]? = some row → c.2[i]? = some t → row.length = zCB c ∧ zAJ t (zCB c) = true
def zId (c : zAu) : Prop := zHg c.1.length = true ∧ c.2.length = c.1.length ∧ ∀ i, i < c.1.length → zFn c i
open Classical in
noncomputable def zDx (c : zAu) : Bool := decide (zId c)
theorem zG9 {c : zAu} (h : zId c) : zDx c = true := by simp [zDx, h]
theorem zGm {c : zAu} (h : ¬ zId c) : zDx c = false := by simp [zDx, h]
theorem zAx {w : World} {g : Nat} {x y : Value} {t : TypeId} (h : w.heap[g]? = some (.cells #[x, y] t (0, 0))) :
    w.cell? ⟨g, 0, none⟩ = some x ∧ w.cell? ⟨g, 1, none⟩ = some y := zBc h
theorem zAg {w : World} {g : Nat} {x y z : Value} {t : TypeId} (h : w.heap[g]? = some (.cells #[x, y, z] t (0, 0))) :
    w.cell? ⟨g, 0, none⟩ = some x ∧ w.cell? ⟨g, 1, none⟩ = some y ∧ w.cell? ⟨g, 2, none⟩ = some z :=
 ⟨by rw [cell_of_row w g 0 _ t (0, 0) h]; rfl, by rw [cell_of_row w g 1 _ t (0, 0) h]; rfl, by rw [cell_of_row w g 2 _ t (0, 0) h]; rfl⟩
theorem zDj {w : World} {a : Option Addr} {xs : List (List zAU)} {j : Nat} {row : List zAU} (h : zBh zBl w a xs) (hx : xs[j]? = some row) :
    ∃ b off aj cj, a = some ⟨b, off, none⟩ ∧ w.cell? ⟨b, off + j, none⟩ = some (.slice aj row.length cj) ∧ row.length ≤ cj ∧ cj ≤ maxLen ∧ zBh zAS w aj row := by
 obtain ⟨b, off, c, rfl, ⟨aj, cj, rfl, h1, h2, h3⟩, hcell⟩ := zBG h hx
 have g1 := hcell 0 _ rfl
 rw [show j * zBl.size + 0 = j from Nat.mul_one j] at g1
 exact ⟨b, off, aj, cj, rfl, g1, h1, h2, h3⟩
theorem int_at {w : World} {a : Option Addr} {xs : List Int} {j : Nat} {x : Int} (h : zBh zBC w a xs) (hx : xs[j]? = some x) :
    ∃ b off, a = some ⟨b, off, none⟩ ∧ w.cell? ⟨b, off + j, none⟩ = some (.int .i64 x) := by
 obtain ⟨b, off, c, rfl, ⟨rfl, _⟩, hcell⟩ := zBG h hx
 have g1 := hcell 0 _ rfl
 rw [show j * zBC.size + 0 = j from Nat.mul_one j] at g1
 exact ⟨b, off, rfl, g1⟩
theorem zKg (a b : Option Addr) (c : zAu) (cap cp : Nat) (w : World) (h1 : zBh zBl w a c.1) (h2 : zBh zBC w b c.2) (m1 : c.1.length ≤ maxLen) (m2 : c.2.length ≤ maxLen) (m3 : ∀ row ∈ c.1, row.length ≤ maxLen) :
    Calls Tryz.prog 89 #[.agg #[.slice a c.1.length cap, .slice b c.2.length cp]] w fun e w' => e = .returned (.bool (zDx c)) ∧ Below w.heap.size w w' := by
 have m1' : c.1.length ≤ 9223372036854775807 := m1
 have m2' : c.2.length ≤ 9223372036854775807 := m2
 have HB : Hid _ := zAf w
 cases hp : zHg c.1.length
 ·have H : Hid (zDx c = false) := zGm fun h => by rw [h.1] at hp; cases hp
  clear h1 h2 m1 m2 m3
  go_enter Tryz.func89, Tryz.ntmps89
  go_wp2_with (go_at_call 111; refine (zCM _ _).mono ?_; rintro e w' ⟨rfl, rfl⟩; rw [hp])
  go_ret
  exact ⟨zA2 H.out.symm, HB.out _⟩
 by_cases hl : c.2.length = c.1.length
 ·rw [hl]
  have HP : Hid (zHg c.1.length = true) := hp
  have HM : Hid (∀ row ∈ c.1, row.length ≤ maxLen) := m3
  have hpos : 0 < c.1.length := by simp [zHg] at hp; omega
  have hx0 : c.1[0]? = some (c.1.getD 0 []) := by rw [List.getD_eq_getElem?_getD, List.getElem?_eq_getElem hpos]; rfl
  have hm0 : (c.1.getD 0 []).length ≤ maxLen := m3 _ (List.mem_of_getElem? hx0)
  obtain ⟨bs, os, a0, c0, rfl, g0, -, -, -⟩ := zDj h1 hx0
  have H1 : Hid _ := h1
  have H2 : Hid _ := h2
  have hlen : Hid (c.2.length = c.1.length) := hl
  have hw0 : Hid ((c.1.getD 0 []).length = zCB c) := rfl
  have G0 : Hid (w.cell? ⟨bs, os + 0, none⟩ = some (.slice a0 (c.1.getD 0 []).length c0)) := g0
  clear h1 h2 m1 m2 m3 hx0 hl g0
  generalize (c.1.getD 0 []).length = m at hm0 hw0 G0
  go_enter Tryz.func89, Tryz.ntmps89
  go_wp2_with (go_at_call 111; refine (zCM _ _).mono ?_; rintro e w' ⟨rfl, rfl⟩; rw [hp])
  generalize hW0 : w.alloc _ = W0
  have X0 := boxH hW0
  have B0 := boxB hW0
  clear hW0
  go_loopw [22] (fun i wr => ∃ k : Nat, k ≤ c.1.length ∧ i = .int .i64 k ∧ (∀ j, j < k → zFn c j) ∧ Below w.heap.size w wr ∧ wr.heap[w.heap.size]? = some (.cells #[.slice (some ⟨bs, os, none⟩) c.1.length cap, .slice b c.1.length cp] 37 (0, 0))) (fun i _ => c.1.length - (intOf i).toNat)
  case atStart => exact ⟨0, Nat.zero_le _, rfl, fun j hj => by omega, B0, X0⟩
  case round =>
   clear B0 X0
   obtain ⟨k, hk, rfl, hfit, BB, X⟩ := hrel
   by_cases hlt : k < c.1.length
   ·have hlt' : (k : Int) < (c.1.length : Int) := by omega
    obtain ⟨row, hrow⟩ : ∃ row, c.1[k]? = some row := ⟨_, List.getElem?_eq_getElem hlt⟩
    obtain ⟨t, ht⟩ : ∃ t, c.2[k]? = some t := ⟨_, List.getElem?_eq_getElem (by have := hlen.out; omega)⟩
    obtain ⟨_, _, ak, ck, e1, gk, -, -, -⟩ := zDj H1.out hrow
    cases e1
    obtain ⟨bt, ot, rfl, gt⟩ := int_at H2.out ht
    have hmk : row.length ≤ maxLen := HM.out _ (List.mem_of_getElem? hrow)
    have l1 := zAi gk
    have l2 := zAi gt
    have KW : Hid (∀ w', Below w.heap.size w w' → w'.cell? ⟨bs, os, none⟩ = some (.slice a0 m c0) ∧ w'.cell? ⟨bs, os + k, none⟩ = some (.slice ak row.length ck) ∧ w'.cell? ⟨bt, ot + k, none⟩ = some (.int .i64 t)) :=
     fun w' hb => ⟨zAd hb G0.out l1, zAd hb gk l1, zAd hb gt l2⟩
    have HR : Hid (∀ r' t', c.1[k]? = some r' → c.2[k]? = some t' → r' = row ∧ t' = t) := fun r' t' h h' => by rw [hrow] at h; rw [ht] at h'; cases h; cases h'; exact ⟨rfl, rfl⟩
    have HF : Hid (¬ zFn c k → zDx c = false) := fun h => zGm fun s => h (s.2.2 k hlt)
    have HN : Hid (zFn c k → row.length = m ∧ zAJ t m = true) := fun h => by have := h row t hrow ht; rwa [← hw0.out] at this
    have HY : Hid (row.length = m → zAJ t m = true → zFn c k) := fun e1 e2 r' t' h h' => by obtain ⟨rfl, rfl⟩ := HR.out r' t' h h'; rw [← hw0.out]; exact ⟨e1, e2⟩
    have hmk' : row.length ≤ 9223372036854775807 := hmk
    have hm' : m ≤ 9223372036854775807 := hm0
    clear gk gt hrow ht hmk hm0 G0
    have n0 : ∀ n : Cls (fun wx => Below w.heap.size w wx ∧ wx.heap[w.heap.size]? = some (.cells #[.slice (some ⟨bs, os, none⟩) c.1.length cap, .slice (some ⟨bt, ot, none⟩) c.1.length cp] 37 (0, 0))), n.w.cell? ⟨w.heap.size, 0, none⟩ = some (.slice (some ⟨bs, os, none⟩) c.1.length cap) := fun n => (zAx n.h.2).1
    have n1 : ∀ n : Cls (fun wx => Below w.heap.size w wx ∧ wx.heap[w.heap.size]? = some (.cells #[.slice (some ⟨bs, os, none⟩) c.1.length cap, .slice (some ⟨bt, ot, none⟩) c.1.length cp] 37 (0, 0))), n.w.cell? ⟨w.heap.size, 1, none⟩ = some (.slice (some ⟨bt, ot, none⟩) c.1.length cp) := fun n => (zAx n.h.2).2
    have g0 : ∀ n : Cls (fun wx => Below w.heap.size w wx ∧ wx.heap[w.heap.size]? = some (.cells #[.slice (some ⟨bs, os, none⟩) c.1.length cap, .slice (some ⟨bt, ot, none⟩) c.1.length cp] 37 (0, 0))), n.w.cell? ⟨bs, os, none⟩ = some (.slice a0 m c0) := fun n => (KW.out _ n.h.1).1
    have gt : ∀ n : Cls (fun wx => Below w.heap.size w wx ∧ wx.heap[w.heap.size]? = some (.cells #[.slice (some ⟨bs, os, none⟩) c.1.length cap, .slice (some ⟨bt, ot, none⟩) c.1.length cp] 37 (0, 0))), n.w.cell? ⟨bt, ot + k, none⟩ = some (.int .i64 t) := fun n => (KW.out _ n.h.1).2.2
    obtain ⟨-, gk, -⟩ := KW.out _ BB
    by_cases hm : row.length = m
    ·have hm2 : ((row.length : Int) == (m : Int)) = true := by simp [hm]
     cases htr : zAJ t m
     ·have htree : Hid (∀ w, Calls Tryz.prog 113 #[.int .i64 t, .int .i64 m] w fun e w' => e = .returned (.bool false) ∧ w' = w) := fun w => by have := zC7 t m w; rwa [htr] at this
      go_wp2_with fail
      refine zA8 (fun wx => Below w.heap.size w wx ∧ wx.heap[w.heap.size]? = some (.cells #[.slice (some ⟨bs, os, none⟩) c.1.length cap, .slice (some ⟨bt, ot, none⟩) c.1.length cp] 37 (0, 0))) (by kernel_rfl) (by kernel_rfl) ⟨BB.drew, X⟩ ?_
      intro hne
      repeat (quiet_step (first | (go_at_call 112; exact zAz (zGl bs os c.1.length cap _ _ _ _ rfl a0 m c0 _ hpos (g0 _)) (fun w' hc bb => ⟨zAb hc.1 bb, zAa bb hc.2⟩)) | (go_at_call 113; exact zAT (htree.out _))))
      refine wpQuiet_nil ?_
      rintro wx ⟨b20, X20⟩
      clear n0 n1 g0 gt gk BB X hne
      go_wp2
      go_ret
      exact ⟨zA2 (HF.out fun h => by have := (HN.out h).2; rw [htr] at this; cases this).symm, b20⟩
     ·have htree : Hid (∀ w, Calls Tryz.prog 113 #[.int .i64 t, .int .i64 m] w fun e w' => e = .returned (.bool true) ∧ w' = w) := fun w => by have := zC7 t m w; rwa [htr] at this
      go_wp2_with fail
      refine zA8 (fun wx => Below w.heap.size w wx ∧ wx.heap[w.heap.size]? = some (.cells #[.slice (some ⟨bs, os, none⟩) c.1.length cap, .slice (some ⟨bt, ot, none⟩) c.1.length cp] 37 (0, 0))) (by kernel_rfl) (by kernel_rfl) ⟨BB.drew, X⟩ ?_
      intro hne
      repeat (quiet_step (first | (go_at_call 112; exact zAz (zGl bs os c.1.length cap _ _ _ _ rfl a0 m c0 _ hpos (g0 _)) (fun w' hc bb => ⟨zAb hc.1 bb, zAa bb hc.2⟩)) | (go_at_call 113; exact zAT (htree.out _))))
      refine wpQuiet_nil ?_
      rintro wx ⟨b20, X20⟩
      clear n0 n1 g0 gt gk BB X hne
      go_wp2
      go_roundw
      case rel =>
       refine ⟨k + 1, by omega, by go_num, fun j hj => ?_, b20, X20⟩
       by_cases he : j < k
       ·exact hfit j he
       ·have : j = k := by omega
        subst this
        exact HY.out hm htr
      case measure => simp [intOf]; omega
    ·have hm3 : ((row.length : Int) != (m : Int)) = true := by simp; omega
     go_wp2_with fail
     refine zA8 (fun wx => Below w.heap.size w wx ∧ wx.heap[w.heap.size]? = some (.cells #[.slice (some ⟨bs, os, none⟩) c.1.length cap, .slice (some ⟨bt, ot, none⟩) c.1.length cp] 37 (0, 0))) (by kernel_rfl) (by kernel_rfl) ⟨BB.drew, X⟩ ?_
     intro hne
     iterate 5 (quiet_step ((go_at_call 112; exact zAz (zGl bs os c.1.length cap _ _ _ _ rfl a0 m c0 _ hpos (g0 _)) (fun w' hc bb => ⟨zAb hc.1 bb, zAa bb hc.2⟩))))
     clear hm3
     refine wpQuiet_step (fun K hK => ?_)
     go_simp
     refine zGy K _ ?_
     intro A hA
     refine hK A ?_
     clear hK K
     have ht0 : A.tmps[32]? = some (.bool true) := by rw [hA]; rfl
     refine zA4 (b := false) (d := 32) ht0 rfl rfl rfl (by decide) ?_
     intro A0 e0 ht1
     clear ht0
     refine zA4 (b := false) (d := 32) ht1 rfl rfl rfl (by decide) ?_
     intro A1 e1 ht2
     clear ht1
     refine zA4 (b := false) (d := 32) ht2 rfl rfl rfl (by decide) ?_
     intro A2 e2 ht3
     clear ht2
     refine zA4 (b := false) (d := 32) ht3 rfl rfl rfl (by decide) ?_
     intro A3 e3 ht4
     clear ht3
     refine zA4 (b := false) (d := 32) ht4 rfl rfl rfl (by decide) ?_
     intro A4 e4 ht5
     clear ht4
     refine zA4 (b := false) (d := 32) ht5 rfl rfl rfl (by decide) ?_
     intro A5 e5 ht6
     clear ht5
     refine zA4 (b := false) (d := 32) ht6 rfl rfl rfl (by decide) ?_
     intro A6 e6 ht7
     clear ht6
     refine zA4 (b := false) (d := 32) ht7 rfl rfl rfl (by decide) ?_
     intro A7 e7 ht8
     clear ht7
     refine zA4 (b := false) (d := 32) ht8 rfl rfl rfl (by decide) ?_
     intro A8 e8 ht9
     clear ht8
     subst e8 e7 e6 e5 e4 e3 e2 e1 e0
     subst hA
     refine wpQuiet_step (fun K hK => ?_)
     go_simp
     refine hK _ ?_
     clear hK K
     refine wpQuiet_nil ?_
     rintro wx ⟨b20, X20⟩
     clear n0 n1 g0 gt gk BB X hne
     go_wp2
     go_ret
     exact ⟨zA2 (HF.out fun h => hm (HN.out h).1).symm, b20⟩
   ·have hkl : k = c.1.length := by omega
    have H : Hid (zDx c = true) := zG9 ⟨HP.out, hlen.out, by rw [← hkl]; exact hfit⟩
    subst hkl
    go_wp2
    go_ret
    exact ⟨zA2 H.out.symm, BB⟩
 ·have H : Hid (zDx c = false) := zGm fun h => hl h.2.1
  have hl' : ((c.2.length : Int) == (c.1.length : Int)) = false := by simp; omega
  clear h1 h2 m1 m2 m3
  go_enter Tryz.func89, Tryz.ntmps89
  go_wp2_with (go_at_call 111; refine (zCM _ _).mono ?_; rintro e w' ⟨rfl, rfl⟩; rw [hp])
  go_ret
  exact ⟨zA2 H.out.symm, HB.out _⟩
end Go.Proofs.YtoihjejenjcokaaGreatDoor
