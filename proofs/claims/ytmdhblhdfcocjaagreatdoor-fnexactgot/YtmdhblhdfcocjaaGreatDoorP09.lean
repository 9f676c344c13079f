import Derived.Test.YtmdhblhdfcocjaaGreatDoorP00Box
import Derived.WalkMore
import Derived.ScopeJumps
import Derived.Test.YtmdhblhdfcocjaaGreatDoorP08
namespace Go.Proofs.YtmdhblhdfcocjaaGreatDoor
set_option maxHeartbeats 2000000
open Go.ChangeShapes Go.WideShapes Go.ChangeAt Go.RowKit
theorem zCL (k : Int) (w : World) : Calls Tryz.prog 83 #[nI k] w fun e a => e = .returned (.bool (okW k)) ∧ a = w := by
 go_enter Tryz.func83, Tryz.ntmps83;go_wp2_with (go_at_call 23; refine (zAZ _ _ _ _).mono ?_; rintro e a ⟨rfl, rfl⟩)
 go_ret
 exact ⟨rfl, rfl⟩
theorem zD2 (a : Option Addr) (n cap : Nat) (w : World) (hn : n ≠ 2) :
    Calls Tryz.prog 60 #[sL a n cap] w fun e w' => e = .returned (.bool false) ∧ w' = w := by
 have b : ((n : Int) == 2) = false := by simp; omega
 go_enter Tryz.func60, Tryz.ntmps60;go_wp2;go_ret
 exact ⟨rfl, rfl⟩
theorem zHq (a : Option Addr) (x y : Int) (cap : Nat) (w : World) (h : zDF w a [x, y]) :
    Calls Tryz.prog 60 #[sL a 2 cap] w fun e c => e = .returned (.bool (okW x && okW y)) ∧ c = w := by
 obtain ⟨b, d, rfl, c0, c1⟩ := zIM h;clear h;cases hx : okW x <;> cases hy : okW y
 all_goals
  go_enter Tryz.func60, Tryz.ntmps60;go_wp2_with (go_at_call 83; refine (zCL _ _).mono ?_; rintro e c ⟨rfl, rfl⟩)
  go_ret
  exact ⟨rfl, rfl⟩
theorem zD3 (a : Option Addr) (xs : List Int) (cap : Nat) (w : World) (h : zDF w a xs) :
    Calls Tryz.prog 60 #[sL a xs.length cap] w fun e w' => e = .returned (.bool (isL xs)) ∧ w' = w := by
 match xs with
 | [x, y] => exact zHq a x y cap w h
 | [] => exact zD2 a 0 cap w (by simp)
 | [_] => exact zD2 a 1 cap w (by simp)
 | _ :: _ :: _ :: r => exact zD2 a (r.length + 1 + 1 + 1) cap w (by omega)
def orI (s i : Int) : Int := bits BinOp.or IntKind.i64 s (2 ^ i.toNat)
def zIc (s i : Int) : Int := bits BinOp.andNot IntKind.i64 s (2 ^ i.toNat)
def withI (s i : Int) : Int := if setB s then (if itemB i then orI s i else s) else -1
def withoutI (s i : Int) : Int := if setB s then (if itemB i then zIc s i else s) else -1
theorem with_in (s i : Int) (w : World) (h5 : 0 ≤ i) (h6 : i ≤ 7) :
    Calls Tryz.prog 164 #[nI s, nI i] w fun e a => e = .returned (nI (orI s i)) ∧ a = w := by
 go_enter Tryz.func164, Tryz.ntmps164;go_wp2_with (go_at_call 165; refine (zIL _ _ h5 h6).mono ?_; rintro e a ⟨rfl, rfl⟩)
 go_ret
 exact ⟨rfl, rfl⟩
theorem zLA (s i : Int) (w : World) (h5 : 0 ≤ i) (h6 : i ≤ 7) :
    Calls Tryz.prog 163 #[nI s, nI i] w fun e a => e = .returned (nI (zIc s i)) ∧ a = w := by
 go_enter Tryz.func163, Tryz.ntmps163;go_wp2_with (go_at_call 165; refine (zIL _ _ h5 h6).mono ?_; rintro e a ⟨rfl, rfl⟩)
 go_ret
 exact ⟨rfl, rfl⟩
def zHg (n : Int) : Bool := decide (n = 1 ∨ n = 2 ∨ n = 4)
theorem zCM (n : Int) (w : World) :
    Calls Tryz.prog 111 #[nI n] w fun e w' => e = .returned (.bool (zHg n)) ∧ w' = w := by
 go_enter Tryz.func111, Tryz.ntmps111;go_wp2
 all_goals go_ret
 all_goals refine ⟨zA2 ?_, rfl⟩
 all_goals first | (simp_all [zHg]; done) | (rw [Bool.eq_iff_iff]; simp [zHg]; omega)
theorem zFm (n : Int) (w : World) :
    Calls Tryz.prog 81 #[nI n] w fun e w' => e = .returned (.bool (zHg n)) ∧ w' = w := by
 go_enter Tryz.func81, Tryz.ntmps81;go_wp2
 all_goals go_ret
 all_goals refine ⟨zA2 ?_, rfl⟩
 all_goals first | (simp_all [zHg]; done) | (rw [Bool.eq_iff_iff]; simp [zHg]; omega)
def zAJ (t n : Int) : Bool := decide ((n = 1 ∧ t = 0) ∨ (n = 2 ∧ 0 ≤ t ∧ t ≤ 1) ∨ (n = 4 ∧ 0 ≤ t ∧ t ≤ 7))
theorem zLB (w : World) : Calls Tryz.prog 139 #[nI 1] w fun e w' => e = .returned (nI 0) ∧ w' = w := by
 go_enter Tryz.func139, Tryz.ntmps139;go_wp2;go_ret
 exact ⟨rfl, rfl⟩
theorem zLC (w : World) : Calls Tryz.prog 139 #[nI 2] w fun e w' => e = .returned (nI 1) ∧ w' = w := by
 go_enter Tryz.func139, Tryz.ntmps139;go_wp2;go_ret
 exact ⟨rfl, rfl⟩
theorem zLD (w : World) : Calls Tryz.prog 139 #[nI 4] w fun e w' => e = .returned (nI 7) ∧ w' = w := by
 go_enter Tryz.func139, Tryz.ntmps139;go_wp2;go_ret
 exact ⟨rfl, rfl⟩
theorem zC7 (t n : Int) (w : World) :
    Calls Tryz.prog 113 #[nI t, nI n] w fun e a => e = .returned (.bool (zAJ t n)) ∧ a = w := by
 cases h : zHg n
 ·have H : Hid (zAJ t n = false) := by
    unfold Hid;simp [zHg] at h
    simp [zAJ]
    omega
  go_enter Tryz.func113, Tryz.ntmps113;go_wp2_with (go_at_call 111; refine (zCM _ _).mono ?_; rintro e a ⟨rfl, rfl⟩)
  go_ret
  exact ⟨zA2 H.out.symm, rfl⟩
 ·have b : n = 1 ∨ n = 2 ∨ n = 4 := by simpa [zHg] using h
  rcases b with rfl | rfl | rfl
  ·have H : Hid (zAJ t 1 = zAP t 0 0) := by
     unfold Hid;rw [Bool.eq_iff_iff];simp [zAJ, zAP]
     omega
   go_enter Tryz.func113, Tryz.ntmps113
   go_wp2_with (first
    | (go_at_call 111; refine (zCM _ _).mono ?_; rintro e a ⟨rfl, rfl⟩)
    | (go_at_call 139; refine (zLB _).mono ?_; rintro e a ⟨rfl, rfl⟩)
    | (go_at_call 68; refine (zBd _ _ _ _).mono ?_; rintro e a ⟨rfl, rfl⟩))
   go_ret
   exact ⟨zA2 H.out.symm, rfl⟩
  ·have H : Hid (zAJ t 2 = zAP t 0 1) := by
     unfold Hid;rw [Bool.eq_iff_iff];simp [zAJ, zAP]
   go_enter Tryz.func113, Tryz.ntmps113
   go_wp2_with (first
    | (go_at_call 111; refine (zCM _ _).mono ?_; rintro e a ⟨rfl, rfl⟩)
    | (go_at_call 139; refine (zLC _).mono ?_; rintro e a ⟨rfl, rfl⟩)
    | (go_at_call 68; refine (zBd _ _ _ _).mono ?_; rintro e a ⟨rfl, rfl⟩))
   go_ret
   exact ⟨zA2 H.out.symm, rfl⟩
  ·have H : Hid (zAJ t 4 = zAP t 0 7) := by
     unfold Hid;rw [Bool.eq_iff_iff];simp [zAJ, zAP]
   go_enter Tryz.func113, Tryz.ntmps113
   go_wp2_with (first
    | (go_at_call 111; refine (zCM _ _).mono ?_; rintro e a ⟨rfl, rfl⟩)
    | (go_at_call 139; refine (zLD _).mono ?_; rintro e a ⟨rfl, rfl⟩)
    | (go_at_call 68; refine (zBd _ _ _ _).mono ?_; rintro e a ⟨rfl, rfl⟩))
   go_ret
   exact ⟨zA2 H.out.symm, rfl⟩
theorem zEL (t n : Int) (w : World) :
    Calls Tryz.prog 82 #[nI t, nI n] w fun e a => e = .returned (.bool (zAJ t n)) ∧ a = w := by
 by_cases c : n = 1
 ·subst c;have H : Hid (zAJ t 1 = (t == 0)) := by
   unfold Hid;rw [Bool.eq_iff_iff];simp [zAJ]
  go_enter Tryz.func82, Tryz.ntmps82;go_wp2_with fail
  go_ret
  exact ⟨zA2 H.out.symm, rfl⟩
 by_cases d : n = 2
 ·subst d;have H : Hid (zAJ t 2 = zAP t 0 1) := by
   unfold Hid;rw [Bool.eq_iff_iff];simp [zAJ, zAP]
  go_enter Tryz.func82, Tryz.ntmps82;go_wp2_with (go_at_call 23; refine (zAZ _ _ _ _).mono ?_; rintro e a ⟨rfl, rfl⟩)
  go_ret
  exact ⟨zA2 H.out.symm, rfl⟩
 by_cases b : n = 4
 ·subst b;have H : Hid (zAJ t 4 = zAP t 0 7) := by
   unfold Hid;rw [Bool.eq_iff_iff];simp [zAJ, zAP]
  go_enter Tryz.func82, Tryz.ntmps82;go_wp2_with (go_at_call 23; refine (zAZ _ _ _ _).mono ?_; rintro e a ⟨rfl, rfl⟩)
  go_ret
  exact ⟨zA2 H.out.symm, rfl⟩
 have H : Hid (zAJ t n = false) := by
  unfold Hid;simp [zAJ]
  omega
 go_enter Tryz.func82, Tryz.ntmps82;go_wp2_with fail
 go_ret
 exact ⟨zA2 H.out.symm, rfl⟩
def otherI (x : Int) : Int := bits BinOp.xor IntKind.i64 x 1
theorem zCj (x y : Int) (h : otherI x = y) (w : World) :
    Calls Tryz.prog 161 #[nI x] w fun e w' => e = .returned (nI y) ∧ w' = w := by
 have H : Hid _ := h;clear h;go_enter Tryz.func161, Tryz.ntmps161;go_wp2;go_ret
 exact ⟨zAV H.out, rfl⟩
theorem zBK (n p y : Int) (h : (n = 2 ∧ p = 0 ∧ y = 0) ∨ (n = 4 ∧ p = 0 ∧ y = 1) ∨ (n = 4 ∧ p = 1 ∧ y = 2)) (w : World) :
    Calls Tryz.prog 162 #[nI n, nI p] w fun e w' => e = .returned (nI y) ∧ w' = w := by
 rcases h with ⟨rfl, rfl, rfl⟩ | ⟨rfl, rfl, rfl⟩ | ⟨rfl, rfl, rfl⟩
 all_goals
  go_enter Tryz.func162, Tryz.ntmps162;go_wp2;go_ret
  exact ⟨rfl, rfl⟩
def zJZ (t b o : Int) : Int := if o = 0 then zIc t b else orI t b
theorem zCk (t b o : Int) (h5 : 0 ≤ b) (h6 : b ≤ 7) (w : World) :
    Calls Tryz.prog 160 #[nI t, nI b, nI o] w fun e a => e = .returned (nI (zJZ t b o)) ∧ a = w := by
 by_cases h : o = 0
 ·have H : Hid (zJZ t b o = zIc t b) := by unfold Hid; simp [zJZ, h]
  go_enter Tryz.func160, Tryz.ntmps160;go_wp2_with (go_at_call 163; refine (zLA _ _ _ h5 h6).mono ?_; rintro e a ⟨rfl, rfl⟩)
  go_ret
  exact ⟨zAV H.out.symm, rfl⟩
 ·have H : Hid (zJZ t b o = orI t b) := by unfold Hid; simp [zJZ, h]
  go_enter Tryz.func160, Tryz.ntmps160;go_wp2_with (go_at_call 164; refine (with_in _ _ _ h5 h6).mono ?_; rintro e a ⟨rfl, rfl⟩)
  go_ret
  exact ⟨zAV H.out.symm, rfl⟩
theorem zLe (n y : Int) (h : n = 1 ∨ n = 2 ∨ n = 4) (w : World) :
    Calls Tryz.prog 157 #[nI n, nI y] w fun e a => e = .returned (.bool (zAP y 0 (n - 1))) ∧ a = w := by
 rcases h with rfl | rfl | rfl
 all_goals
  go_enter Tryz.func157, Tryz.ntmps157;go_wp2_with (go_at_call 68; refine (zBd _ _ _ _).mono ?_; rintro e a ⟨rfl, rfl⟩)
  go_ret
  exact ⟨rfl, rfl⟩
end Go.Proofs.YtmdhblhdfcocjaaGreatDoor
namespace Go
theorem zDN {P : Program} {a : Act} {w : World} {Q : Exit → Act → World → Prop} {c rest : Code} (l : Nat) (hf : findLabel c l = some rest)
    (first : c.wp P (Exit.jump l (fun a w => rest.wp P (Exit.noGoto Q) a w) Q) a w) : (Code.scope c).wp P Q a w := by
 refine wp_scope_jumps l (fun a w => rest.wp P (Exit.noGoto Q) a w) (fun _ _ => 0) hf first ?_
 intro a w h;refine wp_mono h ?_;intro e a' w' h';cases e <;> simp_all [Exit.noGoto, Exit.jump]
end Go
namespace Go.Proofs.YtmdhblhdfcocjaaGreatDoor
open Go.ChangeShapes Go.WideShapes Go.ChangeAt Go.RowKit
def zCU (t n y : Int) : Int := if n = 1 then t else if n = 2 then zJZ t 0 (1 - y) else zJZ (zJZ t 0 (1 - y / 2)) (1 + y / 2) (1 - y % 2)
theorem zMG (t y : Int) (w : World) (hy : y = 0) :
    Calls Tryz.prog 158 #[nI t, nI 1, nI y] w fun e w' => e = .returned (nI t) ∧ w' = w := by
 subst hy;go_enter Tryz.func158, Tryz.ntmps158;go_wp2;refine zDN 0 rfl ?_;go_wp2;go_step3
 refine ⟨rfl, ?_⟩;go_wp2;rw [Exit.noGoto_ret];go_ret
 exact ⟨rfl, rfl⟩
theorem zMH (t y : Int) (w : World) (hy : y = 0 ∨ y = 1) :
    Calls Tryz.prog 158 #[nI t, nI 2, nI y] w fun e a => e = .returned (nI (zJZ t 0 (1 - y))) ∧ a = w := by
 rcases hy with rfl | rfl
 ·go_enter Tryz.func158, Tryz.ntmps158;go_wp2;refine zDN 1 rfl ?_;go_wp2;go_step3
  refine ⟨rfl, ?_⟩
  go_wp2_with (first
   | (go_at_call 162; refine (zBK _ _ 0 (by omega) _).mono ?_; rintro e a ⟨rfl, rfl⟩)
   | (go_at_call 161; refine (zCj _ 1 (by decide) _).mono ?_; rintro e a ⟨rfl, rfl⟩)
   | (go_at_call 160; refine (zCk _ _ _ (by omega) (by omega) _).mono ?_; rintro e a ⟨rfl, rfl⟩))
  go_step3
  go_wp2;rw [Exit.noGoto_ret];go_ret
  exact ⟨rfl, rfl⟩
 ·go_enter Tryz.func158, Tryz.ntmps158;go_wp2;refine zDN 1 rfl ?_;go_wp2;go_step3
  refine ⟨rfl, ?_⟩
  go_wp2_with (first
   | (go_at_call 162; refine (zBK _ _ 0 (by omega) _).mono ?_; rintro e a ⟨rfl, rfl⟩)
   | (go_at_call 161; refine (zCj _ 0 (by decide) _).mono ?_; rintro e a ⟨rfl, rfl⟩)
   | (go_at_call 160; refine (zCk _ _ _ (by omega) (by omega) _).mono ?_; rintro e a ⟨rfl, rfl⟩))
  go_step3
  go_wp2;rw [Exit.noGoto_ret];go_ret
  exact ⟨rfl, rfl⟩
theorem zMI (t y : Int) (w : World) (hy : y = 0 ∨ y = 1 ∨ y = 2 ∨ y = 3) :
    Calls Tryz.prog 158 #[nI t, nI 4, nI y] w fun e a => e = .returned (nI (zJZ (zJZ t 0 (1 - y / 2)) (1 + y / 2) (1 - y % 2))) ∧ a = w := by
 rcases hy with rfl | rfl | rfl | rfl
 ·go_enter Tryz.func158, Tryz.ntmps158;go_wp2;go_step3
  go_wp2_with (first
   | (go_at_call 162; refine (zBK _ _ 1 (by omega) _).mono ?_; rintro e a ⟨rfl, rfl⟩)
   | (go_at_call 161; refine (zCj _ 1 (by decide) _).mono ?_; rintro e a ⟨rfl, rfl⟩)
   | (go_at_call 160; refine (zCk _ _ _ (by omega) (by omega) _).mono ?_; rintro e a ⟨rfl, rfl⟩))
  go_step3
  go_wp2_with (first
   | (go_at_call 162; refine (zBK _ _ 1 (by omega) _).mono ?_; rintro e a ⟨rfl, rfl⟩)
   | (go_at_call 161; refine (zCj _ 1 (by decide) _).mono ?_; rintro e a ⟨rfl, rfl⟩)
   | (go_at_call 160; refine (zCk _ _ _ (by omega) (by omega) _).mono ?_; rintro e a ⟨rfl, rfl⟩))
  go_step3
  go_wp2;rw [Exit.noGoto_ret];go_ret
  exact ⟨rfl, rfl⟩
 ·go_enter Tryz.func158, Tryz.ntmps158;go_wp2;go_step3
  go_wp2_with (first
   | (go_at_call 162; refine (zBK _ _ 1 (by omega) _).mono ?_; rintro e a ⟨rfl, rfl⟩)
   | (go_at_call 161; refine (zCj _ 1 (by decide) _).mono ?_; rintro e a ⟨rfl, rfl⟩)
   | (go_at_call 160; refine (zCk _ _ _ (by omega) (by omega) _).mono ?_; rintro e a ⟨rfl, rfl⟩))
  go_step3
  go_wp2_with (first
   | (go_at_call 162; refine (zBK _ _ 1 (by omega) _).mono ?_; rintro e a ⟨rfl, rfl⟩)
   | (go_at_call 161; refine (zCj _ 0 (by decide) _).mono ?_; rintro e a ⟨rfl, rfl⟩)
   | (go_at_call 160; refine (zCk _ _ _ (by omega) (by omega) _).mono ?_; rintro e a ⟨rfl, rfl⟩))
  go_step3
  go_wp2;rw [Exit.noGoto_ret];go_ret
  exact ⟨rfl, rfl⟩
 ·go_enter Tryz.func158, Tryz.ntmps158;go_wp2;go_step3
  go_wp2_with (first
   | (go_at_call 162; refine (zBK _ _ 2 (by omega) _).mono ?_; rintro e a ⟨rfl, rfl⟩)
   | (go_at_call 161; refine (zCj _ 0 (by decide) _).mono ?_; rintro e a ⟨rfl, rfl⟩)
   | (go_at_call 160; refine (zCk _ _ _ (by omega) (by omega) _).mono ?_; rintro e a ⟨rfl, rfl⟩))
  go_step3
  go_wp2_with (first
   | (go_at_call 162; refine (zBK _ _ 2 (by omega) _).mono ?_; rintro e a ⟨rfl, rfl⟩)
   | (go_at_call 161; refine (zCj _ 1 (by decide) _).mono ?_; rintro e a ⟨rfl, rfl⟩)
   | (go_at_call 160; refine (zCk _ _ _ (by omega) (by omega) _).mono ?_; rintro e a ⟨rfl, rfl⟩))
  go_step3
  go_wp2;rw [Exit.noGoto_ret];go_ret
  exact ⟨rfl, rfl⟩
 ·go_enter Tryz.func158, Tryz.ntmps158;go_wp2;go_step3
  go_wp2_with (first
   | (go_at_call 162; refine (zBK _ _ 2 (by omega) _).mono ?_; rintro e a ⟨rfl, rfl⟩)
   | (go_at_call 161; refine (zCj _ 0 (by decide) _).mono ?_; rintro e a ⟨rfl, rfl⟩)
   | (go_at_call 160; refine (zCk _ _ _ (by omega) (by omega) _).mono ?_; rintro e a ⟨rfl, rfl⟩))
  go_step3
  go_wp2_with (first
   | (go_at_call 162; refine (zBK _ _ 2 (by omega) _).mono ?_; rintro e a ⟨rfl, rfl⟩)
   | (go_at_call 161; refine (zCj _ 0 (by decide) _).mono ?_; rintro e a ⟨rfl, rfl⟩)
   | (go_at_call 160; refine (zCk _ _ _ (by omega) (by omega) _).mono ?_; rintro e a ⟨rfl, rfl⟩))
  go_step3
  go_wp2;rw [Exit.noGoto_ret];go_ret
  exact ⟨rfl, rfl⟩
def tuI (t n y : Int) : Int := if zAJ t n && zAP y 0 (n - 1) then zCU t n y else -1
theorem zId {t n : Int} (h : zAJ t n = true) : n = 1 ∨ n = 2 ∨ n = 4 := by
 simp [zAJ] at h
 omega
theorem zG7 (t n y : Int) (w : World) :
    Calls Tryz.prog 152 #[nI t, nI n, nI y] w fun e a => e = .returned (nI (tuI t n y)) ∧ a = w := by
 cases d : zAJ t n
 ·have H : Hid (tuI t n y = -1) := by unfold Hid; simp [tuI, d]
  go_enter Tryz.func152, Tryz.ntmps152;go_wp2_with (go_at_call 113; refine (zC7 _ _ _).mono ?_; rintro e a ⟨rfl, rfl⟩)
  go_ret
  exact ⟨zAV H.out.symm, rfl⟩
 have c := zId d;cases f : zAP y 0 (n - 1)
 ·have H : Hid (tuI t n y = -1) := by unfold Hid; simp [tuI, f]
  have b : Hid _ := c;clear c;go_enter Tryz.func152, Tryz.ntmps152
  go_wp2_with (first
   | (go_at_call 113; refine (zC7 _ _ _).mono ?_; rintro e a ⟨rfl, rfl⟩)
   | (go_at_call 157; refine (zLe _ _ b.out _).mono ?_; rintro e a ⟨rfl, rfl⟩))
  go_ret
  exact ⟨zAV H.out.symm, rfl⟩
 ·have H : Hid (tuI t n y = zCU t n y) := by unfold Hid; simp [tuI, d, f]
  have g : 0 ≤ y ∧ y ≤ n - 1 := by simpa [zAP] using f
  have b : Hid _ := c;have C : ∀ w, Calls Tryz.prog 158 #[nI t, nI n, nI y] w fun e a => e = .returned (nI (zCU t n y)) ∧ a = w := by
   intro w;rcases c with rfl | rfl | rfl
   ·exact zMG t y w (by omega)
   ·exact zMH t y w (by omega)
   ·exact zMI t y w (by omega)
  have i : Hid _ := C;clear C c g;go_enter Tryz.func152, Tryz.ntmps152
  go_wp2_with (first
   | (go_at_call 113; refine (zC7 _ _ _).mono ?_; rintro e a ⟨rfl, rfl⟩)
   | (go_at_call 157; refine (zLe _ _ b.out _).mono ?_; rintro e a ⟨rfl, rfl⟩)
   | (go_at_call 158; refine (i.out _).mono ?_; rintro e a ⟨rfl, rfl⟩))
  go_ret
  exact ⟨zAV H.out.symm, rfl⟩
theorem zKc (t y : Int) (w : World) :
    Calls Tryz.prog 110 #[nI t, nI 1, nI y] w fun e w' => e = .returned (nI t) ∧ w' = w := by
 go_enter Tryz.func110, Tryz.ntmps110;go_wp2;go_ret
 exact ⟨rfl, rfl⟩
theorem zKd (t y : Int) (w : World) (ht : t = 0 ∨ t = 1) (hy : y = 0 ∨ y = 1) :
    Calls Tryz.prog 110 #[nI t, nI 2, nI y] w fun e w' => e = .returned (nI (zJZ t 0 (1 - y))) ∧ w' = w := by
 have H : Hid (1 - y = zJZ t 0 (1 - y)) := by
  unfold Hid;rcases ht with rfl | rfl <;> rcases hy with rfl | rfl <;> decide
 go_enter Tryz.func110, Tryz.ntmps110;go_wp2;go_ret
 exact ⟨zAV H.out, rfl⟩
theorem eight {t : Int} (h : 0 ≤ t ∧ t ≤ 7) : t = 0 ∨ t = 1 ∨ t = 2 ∨ t = 3 ∨ t = 4 ∨ t = 5 ∨ t = 6 ∨ t = 7 := by omega
theorem zKe (t y : Int) (w : World) (ht : 0 ≤ t ∧ t ≤ 7) (hy : y = 0 ∨ y = 1 ∨ y = 2 ∨ y = 3) :
    Calls Tryz.prog 110 #[nI t, nI 4, nI y] w fun e w' => e = .returned (nI (zJZ (zJZ t 0 (1 - y / 2)) (1 + y / 2) (1 - y % 2))) ∧ w' = w := by
 have a : Hid _ := ht;clear ht;rcases hy with rfl | rfl | rfl | rfl
 all_goals
  go_enter Tryz.func110, Tryz.ntmps110;go_wp2;go_ret
  refine ⟨zAV ?_, rfl⟩;rcases eight a.out with rfl | rfl | rfl | rfl | rfl | rfl | rfl | rfl <;> decide +kernel
def goI (t n : Int) : Int := if n = 1 then 0 else if n = 2 then t else 2 * (t % 2) + t / 2 ^ (1 + t % 2).toNat % 2
def viI (t n : Int) : Int := if zAJ t n then goI t n else -1
open Go.ChangeShapes Go.WideShapes Go.ChangeAt Go.RowKit Go.Shelf
set_option linter.unusedVariables false
theorem zBI (k : Int) (w : World) : Calls Tryz.prog 33 #[nI k] w fun e a => e = .returned (.bool (zAP k 0 15)) ∧ a = w := by
 go_enter Tryz.func33, Tryz.ntmps33;go_wp2_with (go_at_call 68; refine (zBd _ _ _ _).mono ?_; rintro e a ⟨rfl, rfl⟩)
 go_ret
 exact ⟨rfl, rfl⟩
def zHr (l s : Int) (n : Nat) : Bool := decide (l = -1 ∧ s = 0 ∧ n = 0)
theorem zHB (u : zAT) : zHr u.1 u.2.1 u.2.2.length = zB7 u := by
 simp [zHr, zB7]
theorem zDO (l s : Int) (a : Option Addr) (n cap : Nat) (w : World) (hn : n ≤ maxLen) :
    Calls Tryz.prog 94 #[.agg #[nI l, nI s, sL a n cap]] w fun e w' => e = .returned (.bool (zHr l s n)) ∧ Bl w w' := by
 have f : n ≤ 9223372036854775807 := hn;clear hn;by_cases b : l = -1
 ·by_cases c : s = 0
  ·by_cases d : n = 0
   ·have H : Hid (zHr l s n = true) := by simp [Hid, zHr, b, c, d]
    subst b c d;go_enter Tryz.func94, Tryz.ntmps94;go_wp2;go_ret
    exact ⟨zA2 H.out.symm, zAf w _⟩
   ·have H : Hid (zHr l s n = false) := by simp [Hid, zHr, d]
    have g : ((n : Int) == 0) = false := by simp; omega
    subst b c;go_enter Tryz.func94, Tryz.ntmps94;go_wp2;go_ret
    exact ⟨zA2 H.out.symm, zAf w _⟩
  ·have H : Hid (zHr l s n = false) := by simp [Hid, zHr, c]
   have i : (s == 0) = false := by simpa using c
   subst b;go_enter Tryz.func94, Tryz.ntmps94;go_wp2;go_ret
   exact ⟨zA2 H.out.symm, zAf w _⟩
 ·have H : Hid (zHr l s n = false) := by simp [Hid, zHr, b]
  have j : (l == -1) = false := by simpa using b
  go_enter Tryz.func94, Tryz.ntmps94;go_wp2;go_ret
  exact ⟨zA2 H.out.symm, zAf w _⟩
theorem zDP (l s : Int) (a : Option Addr) (n cap : Nat) (w : World) (hn : n ≤ maxLen) :
    Calls Tryz.prog 52 #[.agg #[nI l, nI s, sL a n cap]] w fun e w' => e = .returned (.bool (zHr l s n)) ∧ Bl w w' := by
 have f : n ≤ 9223372036854775807 := hn;clear hn;by_cases b : l = -1
 ·by_cases c : s = 0
  ·by_cases d : n = 0
   ·have H : Hid (zHr l s n = true) := by simp [Hid, zHr, b, c, d]
    subst b c d;go_enter Tryz.func52, Tryz.ntmps52;go_wp2;go_ret
    exact ⟨zA2 H.out.symm, zAf w _⟩
   ·have H : Hid (zHr l s n = false) := by simp [Hid, zHr, d]
    have g : ((n : Int) == 0) = false := by simp; omega
    subst b c;go_enter Tryz.func52, Tryz.ntmps52;go_wp2;go_ret
    exact ⟨zA2 H.out.symm, zAf w _⟩
  ·have H : Hid (zHr l s n = false) := by simp [Hid, zHr, c]
   have i : (s == 0) = false := by simpa using c
   subst b;go_enter Tryz.func52, Tryz.ntmps52;go_wp2;go_ret
   exact ⟨zA2 H.out.symm, zAf w _⟩
 ·have H : Hid (zHr l s n = false) := by simp [Hid, zHr, b]
  have j : (l == -1) = false := by simpa using b
  go_enter Tryz.func52, Tryz.ntmps52;go_wp2;go_ret
  exact ⟨zA2 H.out.symm, zAf w _⟩
theorem zKf (ln : List Int → Bool) (u : zAT) : zBi ln u = (zAP u.1 0 15 && (zAP u.2.1 1 3 && ln u.2.2)) := by
 simp [zBi, zAP, Bool.decide_and]
theorem zDw (l s : Int) (d : List Int) (a : Option Addr) (cap : Nat) (w : World) (h : zBg zBC w a d) :
    Calls Tryz.prog 96 #[.agg #[nI l, nI s, sL a d.length cap]] w fun e b => e = .returned (.bool (zBi isL (l, s, d))) ∧ Bl w b := by
 rw [zKf];have c : Hid _ := zAf w;have f : Hid (∀ o, zDF (w.alloc o) a d) := fun o => zCw (zAG h (zAf w o));clear h;cases h1 : zAP l 0 15
 ·go_enter Tryz.func96, Tryz.ntmps96;go_wp2_with (go_at_call 33; refine (zBI _ _).mono ?_; rintro e b ⟨rfl, rfl⟩)
  go_ret
  exact ⟨rfl, c.out _⟩
 ·cases h2 : zAP s 1 3
  ·go_enter Tryz.func96, Tryz.ntmps96
   go_wp2_with (first
    | (go_at_call 33; refine (zBI _ _).mono ?_; rintro e b ⟨rfl, rfl⟩)
    | (go_at_call 68; refine (zBd _ _ _ _).mono ?_; rintro e b ⟨rfl, rfl⟩))
   go_ret
   exact ⟨rfl, c.out _⟩
  ·go_enter Tryz.func96, Tryz.ntmps96
   go_wp2_with (first
    | (go_at_call 33; refine (zBI _ _).mono ?_; rintro e b ⟨rfl, rfl⟩)
    | (go_at_call 68; refine (zBd _ _ _ _).mono ?_; rintro e b ⟨rfl, rfl⟩)
    | (go_at_call 119; refine (zHm _ d _ _ (f.out _)).mono ?_; rintro e b ⟨rfl, g⟩))
   go_ret
   exact ⟨rfl, zAb (c.out _) g⟩
theorem zE6 (l s : Int) (d : List Int) (a : Option Addr) (cap : Nat) (w : World) (h : zBg zBC w a d) :
    Calls Tryz.prog 53 #[.agg #[nI l, nI s, sL a d.length cap]] w fun e b => e = .returned (.bool (zBi isL (l, s, d))) ∧ Bl w b := by
 rw [zKf];have c : Hid _ := zAf w;have f : Hid (∀ o, zDF (w.alloc o) a d) := fun o => zCw (zAG h (zAf w o));clear h;cases h1 : zAP l 0 15
 ·go_enter Tryz.func53, Tryz.ntmps53;go_wp2_with (go_at_call 23; refine (zAZ _ _ _ _).mono ?_; rintro e b ⟨rfl, rfl⟩)
  go_ret
  exact ⟨rfl, c.out _⟩
 ·cases h2 : zAP s 1 3
  ·go_enter Tryz.func53, Tryz.ntmps53;go_wp2_with (go_at_call 23; refine (zAZ _ _ _ _).mono ?_; rintro e b ⟨rfl, rfl⟩)
   go_ret
   exact ⟨rfl, c.out _⟩
  ·go_enter Tryz.func53, Tryz.ntmps53
   go_wp2_with (first
    | (go_at_call 23; refine (zAZ _ _ _ _).mono ?_; rintro e b ⟨rfl, rfl⟩)
    | (go_at_call 60; refine (zD3 _ d _ _ (f.out _)).mono ?_; rintro e b ⟨rfl, rfl⟩))
   go_ret
   exact ⟨rfl, c.out _⟩
theorem zGl (b off s cap : Nat) (v : Value) (b1 : Option Addr) (n1 c1 : Nat) (hv : v = sL b1 n1 c1) (a1 : Option Addr) (m cp : Nat) (w : World) (hs : 0 < s) (h : w.cell? ⟨b, off, none⟩ = some (sL a1 m cp)) :
    Calls Tryz.prog 112 #[.agg #[sL (some ⟨b, off, none⟩) s cap, v]] w fun e w' => e = .returned (nI m) ∧ Bl w w' := by
 subst hv;have a := World.block_lt_of_cell? w _ h;simp only at a
 have c : Hid _ := zAf w;go_enter Tryz.func112, Tryz.ntmps112;go_wp2;go_ret
 exact ⟨rfl, c.out _⟩
theorem zG8 (a : Option Addr) (s cap : Nat) (v : Value) (b1 : Option Addr) (n1 c1 : Nat) (hv : v = sL b1 n1 c1) (line : Int) (w : World) (hs : s = 1 ∨ s = 2 ∨ s = 4) (h0 : 0 ≤ line) :
    Calls Tryz.prog 114 #[.agg #[sL a s cap, v], nI line] w fun e w' => e = .returned (nI (line % (s : Int))) ∧ Bl w w' := by
 subst hv;have b : Hid _ := zAf w;rcases hs with rfl | rfl | rfl
 all_goals
  go_enter Tryz.func114, Tryz.ntmps114;go_wp2;go_ret
  exact ⟨zAV (by omega), b.out _⟩
def zCB (c : zAu) : Nat := (c.1.getD 0 []).length
def zFn (c : zAu) (i : Nat) : Prop := ∀ row t, c.1[i]? = some row → c.2[i]? = some t → row.length = zCB c ∧ zAJ t (zCB c) = true
def zIe (c : zAu) : Prop := zHg c.1.length = true ∧ c.2.length = c.1.length ∧ ∀ i, i < c.1.length → zFn c i
open Classical in
noncomputable def zDx (c : zAu) : Bool := decide (zIe c)
theorem zG9 {c : zAu} (h : zIe c) : zDx c = true := by simp [zDx, h]
theorem zGm {c : zAu} (h : ¬ zIe c) : zDx c = false := by simp [zDx, h]
theorem zAy {w : World} {g : Nat} {x y : Value} {t : TypeId} (h : w.heap[g]? = some (.cells #[x, y] t (0, 0))) :
    w.cell? ⟨g, 0, none⟩ = some x ∧ w.cell? ⟨g, 1, none⟩ = some y := zBb h
theorem zAg {w : World} {g : Nat} {x y z : Value} {t : TypeId} (h : w.heap[g]? = some (.cells #[x, y, z] t (0, 0))) :
    w.cell? ⟨g, 0, none⟩ = some x ∧ w.cell? ⟨g, 1, none⟩ = some y ∧ w.cell? ⟨g, 2, none⟩ = some z :=
 ⟨by rw [cell_of_row w g 0 _ t (0, 0) h]; rfl, by rw [cell_of_row w g 1 _ t (0, 0) h]; rfl, by rw [cell_of_row w g 2 _ t (0, 0) h]; rfl⟩
theorem zDj {w : World} {a : Option Addr} {xs : List (List zAT)} {j : Nat} {row : List zAT} (h : zBg zBl w a xs) (hx : xs[j]? = some row) :
    ∃ b d i g, a = some ⟨b, d, none⟩ ∧ w.cell? ⟨b, d + j, none⟩ = some (sL i row.length g) ∧ row.length ≤ g ∧ g ≤ maxLen ∧ zBg zAR w i row := by
 obtain ⟨b, d, c, rfl, ⟨i, g, rfl, m, n, l⟩, f⟩ := zBG h hx;have k := f 0 _ rfl;rw [show j * zBl.size + 0 = j from Nat.mul_one j] at k;exact ⟨b, d, i, g, rfl, k, m, n, l⟩
theorem int_at {w : World} {a : Option Addr} {xs : List Int} {j : Nat} {x : Int} (h : zBg zBC w a xs) (hx : xs[j]? = some x) :
    ∃ b d, a = some ⟨b, d, none⟩ ∧ w.cell? ⟨b, d + j, none⟩ = some (nI x) := by
 obtain ⟨b, d, c, rfl, ⟨rfl, _⟩, f⟩ := zBG h hx;have g := f 0 _ rfl;rw [show j * zBC.size + 0 = j from Nat.mul_one j] at g;exact ⟨b, d, rfl, g⟩
theorem zKg (a b : Option Addr) (c : zAu) (cap cp : Nat) (w : World) (h1 : zBg zBl w a c.1) (h2 : zBg zBC w b c.2) (m1 : c.1.length ≤ maxLen) (m2 : c.2.length ≤ maxLen) (m3 : ∀ f ∈ c.1, f.length ≤ maxLen) :
    Calls Tryz.prog 89 #[.agg #[sL a c.1.length cap, sL b c.2.length cp]] w fun e g => e = .returned (.bool (zDx c)) ∧ Bl w g := by
 have OA : c.1.length ≤ 9223372036854775807 := m1;have dB : c.2.length ≤ 9223372036854775807 := m2;have HB : Hid _ := zAf w;cases J : zHg c.1.length
 ·have H : Hid (zDx c = false) := zGm fun h => by rw [h.1] at J; cases J
  clear h1 h2 m1 m2 m3;go_enter Tryz.func89, Tryz.ntmps89;go_wp2_with (go_at_call 111; refine (zCM _ _).mono ?_; rintro e g ⟨rfl, rfl⟩; rw [J])
  go_ret
  exact ⟨zA2 H.out.symm, HB.out _⟩
 by_cases hl : c.2.length = c.1.length
 ·rw [hl];have HP : Hid (zHg c.1.length = true) := J;have HM : Hid (∀ f ∈ c.1, f.length ≤ maxLen) := m3;have r : 0 < c.1.length := by simp [zHg] at J; omega
  have R : c.1[0]? = some (c.1.getD 0 []) := by rw [List.getD_eq_getElem?_getD, List.getElem?_eq_getElem r]; rfl
  have O : (c.1.getD 0 []).length ≤ maxLen := m3 _ (List.mem_of_getElem? R);obtain ⟨p, o, T, U, rfl, D, -, -, -⟩ := zDj h1 R;have H1 : Hid _ := h1;have H2 : Hid _ := h2;have G : Hid (c.2.length = c.1.length) := hl;have M : Hid ((c.1.getD 0 []).length = zCB c) := rfl;have G0 : Hid (w.cell? ⟨p, o + 0, none⟩ = some (sL T (c.1.getD 0 []).length U)) := D;clear h1 h2 m1 m2 m3 R hl D;generalize (c.1.getD 0 []).length = m at O M G0;go_enter Tryz.func89, Tryz.ntmps89;go_wp2_with (go_at_call 111; refine (zCM _ _).mono ?_; rintro e g ⟨rfl, rfl⟩; rw [J])
  generalize N : w.alloc _ = W0;have X0 := boxH N;have B0 := boxB N;clear N;go_loopw [22] (fun i wr => ∃ k : Nat, k ≤ c.1.length ∧ i = nI k ∧ (∀ j, j < k → zFn c j) ∧ Bl w wr ∧ wr.heap[w.heap.size]? = some (.cells #[sL (some ⟨p, o, none⟩) c.1.length cap, sL b c.1.length cp] 37 (0, 0))) (fun i _ => c.1.length - (intOf i).toNat)
  case atStart => exact ⟨0, Nat.zero_le _, rfl, fun j hj => by omega, B0, X0⟩
  case round =>
   clear B0 X0;obtain ⟨k, hk, rfl, F, E, X⟩ := hrel;by_cases V : k < c.1.length
   ·have GA : (k : Int) < (c.1.length : Int) := by omega
    obtain ⟨f, l⟩ : ∃ f, c.1[k]? = some f := ⟨_, List.getElem?_eq_getElem V⟩;obtain ⟨t, ht⟩ : ∃ t, c.2[k]? = some t := ⟨_, List.getElem?_eq_getElem (by have := G.out; omega)⟩;obtain ⟨_, _, ak, ck, e1, I, -, -, -⟩ := zDj H1.out l;cases e1;obtain ⟨B, z, rfl, L⟩ := int_at H2.out ht;have aA : f.length ≤ maxLen := HM.out _ (List.mem_of_getElem? l);have l1 := zAi I;have l2 := zAi L;have KW : Hid (∀ g, Bl w g → g.cell? ⟨p, o, none⟩ = some (sL T m U) ∧ g.cell? ⟨p, o + k, none⟩ = some (sL ak f.length ck) ∧ g.cell? ⟨B, z + k, none⟩ = some (nI t)) :=
     fun g hb => ⟨zAd hb G0.out l1, zAd hb I l1, zAd hb L l2⟩
    have HR : Hid (∀ r' t', c.1[k]? = some r' → c.2[k]? = some t' → r' = f ∧ t' = t) := fun r' t' h h' => by rw [l] at h; rw [ht] at h'; cases h; cases h'; exact ⟨rfl, rfl⟩
    have HF : Hid (¬ zFn c k → zDx c = false) := fun h => zGm fun s => h (s.2.2 k V);have HN : Hid (zFn c k → f.length = m ∧ zAJ t m = true) := fun h => by have := h f t l ht; rwa [← M.out] at this
    have HY : Hid (f.length = m → zAJ t m = true → zFn c k) := fun e1 e2 r' t' h h' => by obtain ⟨rfl, rfl⟩ := HR.out r' t' h h'; rw [← M.out]; exact ⟨e1, e2⟩
    have CA : f.length ≤ 9223372036854775807 := aA;have UA : m ≤ 9223372036854775807 := O;clear I L l ht aA O G0;have n0 : ∀ n : Cls (fun wx => Bl w wx ∧ wx.heap[w.heap.size]? = some (.cells #[sL (some ⟨p, o, none⟩) c.1.length cap, sL (some ⟨B, z, none⟩) c.1.length cp] 37 (0, 0))), n.w.cell? ⟨w.heap.size, 0, none⟩ = some (sL (some ⟨p, o, none⟩) c.1.length cap) := fun n => (zAy n.h.2).1;have n1 : ∀ n : Cls (fun wx => Bl w wx ∧ wx.heap[w.heap.size]? = some (.cells #[sL (some ⟨p, o, none⟩) c.1.length cap, sL (some ⟨B, z, none⟩) c.1.length cp] 37 (0, 0))), n.w.cell? ⟨w.heap.size, 1, none⟩ = some (sL (some ⟨B, z, none⟩) c.1.length cp) := fun n => (zAy n.h.2).2;have D : ∀ n : Cls (fun wx => Bl w wx ∧ wx.heap[w.heap.size]? = some (.cells #[sL (some ⟨p, o, none⟩) c.1.length cap, sL (some ⟨B, z, none⟩) c.1.length cp] 37 (0, 0))), n.w.cell? ⟨p, o, none⟩ = some (sL T m U) := fun n => (KW.out _ n.h.1).1;have L : ∀ n : Cls (fun wx => Bl w wx ∧ wx.heap[w.heap.size]? = some (.cells #[sL (some ⟨p, o, none⟩) c.1.length cap, sL (some ⟨B, z, none⟩) c.1.length cp] 37 (0, 0))), n.w.cell? ⟨B, z + k, none⟩ = some (nI t) := fun n => (KW.out _ n.h.1).2.2;obtain ⟨-, I, -⟩ := KW.out _ E;by_cases hm : f.length = m
    ·have aB : ((f.length : Int) == (m : Int)) = true := by simp [hm]
     cases C : zAJ t m
     ·have q : Hid (∀ w, Calls Tryz.prog 113 #[nI t, nI m] w fun e g => e = .returned (.bool false) ∧ g = w) := fun w => by have := zC7 t m w; rwa [C] at this
      go_wp2_with fail
      refine zA8 (fun wx => Bl w wx ∧ wx.heap[w.heap.size]? = some (.cells #[sL (some ⟨p, o, none⟩) c.1.length cap, sL (some ⟨B, z, none⟩) c.1.length cp] 37 (0, 0))) (by kernel_rfl) (by kernel_rfl) ⟨E.drew, X⟩ ?_;intro v;repeat (quiet_step (first | (go_at_call 112; exact zAz (zGl p o c.1.length cap _ _ _ _ rfl T m U _ r (D _)) (fun g hc bb => ⟨zAb hc.1 bb, zAa bb hc.2⟩)) | (go_at_call 113; exact zAS (q.out _))))
      refine wpQuiet_nil ?_;rintro wx ⟨y, S⟩;clear n0 n1 D L I E X v;go_wp2;go_ret
      exact ⟨zA2 (HF.out fun h => by have := (HN.out h).2; rw [C] at this; cases this).symm, y⟩
     ·have q : Hid (∀ w, Calls Tryz.prog 113 #[nI t, nI m] w fun e g => e = .returned (.bool true) ∧ g = w) := fun w => by have := zC7 t m w; rwa [C] at this
      go_wp2_with fail
      refine zA8 (fun wx => Bl w wx ∧ wx.heap[w.heap.size]? = some (.cells #[sL (some ⟨p, o, none⟩) c.1.length cap, sL (some ⟨B, z, none⟩) c.1.length cp] 37 (0, 0))) (by kernel_rfl) (by kernel_rfl) ⟨E.drew, X⟩ ?_;intro v;repeat (quiet_step (first | (go_at_call 112; exact zAz (zGl p o c.1.length cap _ _ _ _ rfl T m U _ r (D _)) (fun g hc bb => ⟨zAb hc.1 bb, zAa bb hc.2⟩)) | (go_at_call 113; exact zAS (q.out _))))
      refine wpQuiet_nil ?_;rintro wx ⟨y, S⟩;clear n0 n1 D L I E X v;go_wp2;go_roundw
      case rel =>
       refine ⟨k + 1, by omega, by go_num, fun j hj => ?_, y, S⟩;by_cases he : j < k
       ·exact F j he
       ·have : j = k := by omega
        subst this;exact HY.out hm C
      case measure => simp [intOf]; omega
    ·have qA : ((f.length : Int) != (m : Int)) = true := by simp; omega
     go_wp2_with fail
     refine zA8 (fun wx => Bl w wx ∧ wx.heap[w.heap.size]? = some (.cells #[sL (some ⟨p, o, none⟩) c.1.length cap, sL (some ⟨B, z, none⟩) c.1.length cp] 37 (0, 0))) (by kernel_rfl) (by kernel_rfl) ⟨E.drew, X⟩ ?_;intro v;iterate 5 (quiet_step ((go_at_call 112; exact zAz (zGl p o c.1.length cap _ _ _ _ rfl T m U _ r (D _)) (fun g hc bb => ⟨zAb hc.1 bb, zAa bb hc.2⟩))))
     clear qA;refine wpQuiet_step (fun K hK => ?_);go_simp
     refine zGy K _ ?_;intro A hA;refine hK A ?_;clear hK K;have eA : A.tmps[32]? = some (.bool true) := by rw [hA]; rfl
     refine zA4 (b := false) (d := 32) eA rfl rfl rfl (by decide) ?_;intro A0 e0 jA;clear eA;refine zA4 (b := false) (d := 32) jA rfl rfl rfl (by decide) ?_;intro A1 e1 iA;clear jA;refine zA4 (b := false) (d := 32) iA rfl rfl rfl (by decide) ?_;intro A2 e2 Z;clear iA;refine zA4 (b := false) (d := 32) Z rfl rfl rfl (by decide) ?_;intro A3 e3 bA;clear Z;refine zA4 (b := false) (d := 32) bA rfl rfl rfl (by decide) ?_;intro A4 e4 Y;clear bA;refine zA4 (b := false) (d := 32) Y rfl rfl rfl (by decide) ?_;intro A5 e5 dA;clear Y;refine zA4 (b := false) (d := 32) dA rfl rfl rfl (by decide) ?_;intro A6 e6 gA;clear dA;refine zA4 (b := false) (d := 32) gA rfl rfl rfl (by decide) ?_;intro A7 e7 kA;clear gA;refine zA4 (b := false) (d := 32) kA rfl rfl rfl (by decide) ?_;intro A8 e8 gB;clear kA;subst e8 e7 e6 e5 e4 e3 e2 e1 e0;subst hA;refine wpQuiet_step (fun K hK => ?_);go_simp
     refine hK _ ?_;clear hK K;refine wpQuiet_nil ?_;rintro wx ⟨y, S⟩;clear n0 n1 D L I E X v;go_wp2;go_ret
     exact ⟨zA2 (HF.out fun h => hm (HN.out h).1).symm, y⟩
   ·have fA : k = c.1.length := by omega
    have H : Hid (zDx c = true) := zG9 ⟨HP.out, G.out, by rw [← fA]; exact F⟩;subst fA;go_wp2;go_ret
    exact ⟨zA2 H.out.symm, E⟩
 ·have H : Hid (zDx c = false) := zGm fun h => hl h.2.1;have NA : ((c.2.length : Int) == (c.1.length : Int)) = false := by simp; omega
  clear h1 h2 m1 m2 m3;go_enter Tryz.func89, Tryz.ntmps89;go_wp2_with (go_at_call 111; refine (zCM _ _).mono ?_; rintro e g ⟨rfl, rfl⟩; rw [J])
  go_ret
  exact ⟨zA2 H.out.symm, HB.out _⟩
end Go.Proofs.YtmdhblhdfcocjaaGreatDoor
