
/- Tree. -/
import Derived.Test.YthbclkpmgcfdnaaGreatDoorJChange8Own
import Derived.Test.YthbclkpmgcfdnaaGreatDoorJOwn516Lines4
import Derived.WalkMore
import Derived.ScopeJumps
/- The contracts of the trees' smallest functions: whether it is a tree, of the program and of its specification; the bit of a pair, the other one, what a bit tells. No condition but that a bit's number is from 0 to 7. -/
namespace Go.Proofs.YthbclkpmgcfdnaaGreatDoor
open Go.ChangeShapes Go.WideShapes Go.ChangeAt Go.RowKit
def treeB (t n : Int) : Bool := decide ((n = 1 ∧ t = 0) ∨ (n = 2 ∧ 0 ≤ t ∧ t ≤ 1) ∨ (n = 4 ∧ 0 ≤ t ∧ t ≤ 7))

set_option maxHeartbeats 400000 in
theorem lastTree_1 (w : World) : Calls Tryz.prog 202 #[.int .i64 1] w fun e w' => e = .returned (.int .i64 0) ∧ w' = w := by
  go_enter Tryz.func202, Tryz.ntmps202
  go_wp2
  go_ret
  exact ⟨rfl, rfl⟩
set_option maxHeartbeats 400000 in
theorem lastTree_2 (w : World) : Calls Tryz.prog 202 #[.int .i64 2] w fun e w' => e = .returned (.int .i64 1) ∧ w' = w := by
  go_enter Tryz.func202, Tryz.ntmps202
  go_wp2
  go_ret
  exact ⟨rfl, rfl⟩
set_option maxHeartbeats 400000 in
theorem lastTree_4 (w : World) : Calls Tryz.prog 202 #[.int .i64 4] w fun e w' => e = .returned (.int .i64 7) ∧ w' = w := by
  go_enter Tryz.func202, Tryz.ntmps202
  go_wp2
  go_ret
  exact ⟨rfl, rfl⟩

set_option maxHeartbeats 400000 in
theorem implTreeOk_any (t n : Int) (w : World) :
    Calls Tryz.prog 174 #[.int .i64 t, .int .i64 n] w fun e w' => e = .returned (.bool (treeB t n)) ∧ w' = w := by
  cases h : powB n
  · have H : Hid (treeB t n = false) := by
      unfold Hid
      simp [powB] at h
      simp [treeB]
      omega
    go_enter Tryz.func174, Tryz.ntmps174
    go_wp2_with (go_at_call 118; refine (sizeOk_any _ _).mono ?_; rintro e w' ⟨rfl, rfl⟩)
    go_ret
    exact ⟨ret_bool H.out.symm, rfl⟩
  · have h3 : n = 1 ∨ n = 2 ∨ n = 4 := by simpa [powB] using h
    rcases h3 with rfl | rfl | rfl
    · have H : Hid (treeB t 1 = betw t 0 0) := by
        unfold Hid
        rw [Bool.eq_iff_iff]
        simp [treeB, betw]
        omega
      go_enter Tryz.func174, Tryz.ntmps174
      go_wp2_with (first
        | (go_at_call 118; refine (sizeOk_any _ _).mono ?_; rintro e w' ⟨rfl, rfl⟩)
        | (go_at_call 202; refine (lastTree_1 _).mono ?_; rintro e w' ⟨rfl, rfl⟩)
        | (go_at_call 104; refine (between_any _ _ _ _).mono ?_; rintro e w' ⟨rfl, rfl⟩))
      go_ret
      exact ⟨ret_bool H.out.symm, rfl⟩
    · have H : Hid (treeB t 2 = betw t 0 1) := by
        unfold Hid
        rw [Bool.eq_iff_iff]
        simp [treeB, betw]
      go_enter Tryz.func174, Tryz.ntmps174
      go_wp2_with (first
        | (go_at_call 118; refine (sizeOk_any _ _).mono ?_; rintro e w' ⟨rfl, rfl⟩)
        | (go_at_call 202; refine (lastTree_2 _).mono ?_; rintro e w' ⟨rfl, rfl⟩)
        | (go_at_call 104; refine (between_any _ _ _ _).mono ?_; rintro e w' ⟨rfl, rfl⟩))
      go_ret
      exact ⟨ret_bool H.out.symm, rfl⟩
    · have H : Hid (treeB t 4 = betw t 0 7) := by
        unfold Hid
        rw [Bool.eq_iff_iff]
        simp [treeB, betw]
      go_enter Tryz.func174, Tryz.ntmps174
      go_wp2_with (first
        | (go_at_call 118; refine (sizeOk_any _ _).mono ?_; rintro e w' ⟨rfl, rfl⟩)
        | (go_at_call 202; refine (lastTree_4 _).mono ?_; rintro e w' ⟨rfl, rfl⟩)
        | (go_at_call 104; refine (between_any _ _ _ _).mono ?_; rintro e w' ⟨rfl, rfl⟩))
      go_ret
      exact ⟨ret_bool H.out.symm, rfl⟩

set_option maxHeartbeats 400000 in
theorem specTreeOk_any (t n : Int) (w : World) :
    Calls Tryz.prog 134 #[.int .i64 t, .int .i64 n] w fun e w' => e = .returned (.bool (treeB t n)) ∧ w' = w := by
  by_cases h1 : n = 1
  · subst h1
    have H : Hid (treeB t 1 = (t == 0)) := by
      unfold Hid
      rw [Bool.eq_iff_iff]
      simp [treeB]
    go_enter Tryz.func134, Tryz.ntmps134
    go_wp2_with fail
    go_ret
    exact ⟨ret_bool H.out.symm, rfl⟩
  by_cases h2 : n = 2
  · subst h2
    have H : Hid (treeB t 2 = betw t 0 1) := by
      unfold Hid
      rw [Bool.eq_iff_iff]
      simp [treeB, betw]
    go_enter Tryz.func134, Tryz.ntmps134
    go_wp2_with (go_at_call 54; refine (l1In_any _ _ _ _).mono ?_; rintro e w' ⟨rfl, rfl⟩)
    go_ret
    exact ⟨ret_bool H.out.symm, rfl⟩
  by_cases h4 : n = 4
  · subst h4
    have H : Hid (treeB t 4 = betw t 0 7) := by
      unfold Hid
      rw [Bool.eq_iff_iff]
      simp [treeB, betw]
    go_enter Tryz.func134, Tryz.ntmps134
    go_wp2_with (go_at_call 54; refine (l1In_any _ _ _ _).mono ?_; rintro e w' ⟨rfl, rfl⟩)
    go_ret
    exact ⟨ret_bool H.out.symm, rfl⟩
  have H : Hid (treeB t n = false) := by
    unfold Hid
    simp [treeB]
    omega
  go_enter Tryz.func134, Tryz.ntmps134
  go_wp2_with fail
  go_ret
  exact ⟨ret_bool H.out.symm, rfl⟩

def otherI (x : Int) : Int := bits BinOp.xor IntKind.i64 x 1
set_option maxHeartbeats 400000 in
theorem otherOf_at (x y : Int) (h : otherI x = y) (w : World) :
    Calls Tryz.prog 217 #[.int .i64 x] w fun e w' => e = .returned (.int .i64 y) ∧ w' = w := by
  have H : Hid _ := h
  clear h
  go_enter Tryz.func217, Tryz.ntmps217
  go_wp2
  go_ret
  exact ⟨ret_int H.out, rfl⟩

set_option maxHeartbeats 400000 in
theorem bitOfPair_at (n p y : Int) (h : (n = 2 ∧ p = 0 ∧ y = 0) ∨ (n = 4 ∧ p = 0 ∧ y = 1) ∨ (n = 4 ∧ p = 1 ∧ y = 2)) (w : World) :
    Calls Tryz.prog 215 #[.int .i64 n, .int .i64 p] w fun e w' => e = .returned (.int .i64 y) ∧ w' = w := by
  rcases h with ⟨rfl, rfl, rfl⟩ | ⟨rfl, rfl, rfl⟩ | ⟨rfl, rfl, rfl⟩
  all_goals
    go_enter Tryz.func215, Tryz.ntmps215
    go_wp2
    go_ret
    exact ⟨rfl, rfl⟩

def toldI (t b : Int) : Int := if inB t b then 1 else 0
set_option maxHeartbeats 400000 in
theorem toldBy_at (t b y : Int) (h : toldI t b = y) (w : World) :
    Calls Tryz.prog 214 #[.int .i64 t, .int .i64 b] w fun e w' => e = .returned (.int .i64 y) ∧ w' = w := by
  unfold toldI at h
  cases h1 : inB t b
  all_goals
    rw [h1] at h
    subst h
    go_enter Tryz.func214, Tryz.ntmps214
    go_wp2_with (go_at_call 216; refine (has_any _ _ _).mono ?_; rintro e w' ⟨rfl, rfl⟩)
    go_ret
    exact ⟨rfl, rfl⟩
def telI (t b o : Int) : Int := if o = 0 then andNotI t b else orI t b
set_option maxHeartbeats 400000 in
theorem telling_in (t b o : Int) (h5 : 0 ≤ b) (h6 : b ≤ 7) (w : World) :
    Calls Tryz.prog 218 #[.int .i64 t, .int .i64 b, .int .i64 o] w fun e w' => e = .returned (.int .i64 (telI t b o)) ∧ w' = w := by
  by_cases h : o = 0
  · have H : Hid (telI t b o = andNotI t b) := by unfold Hid; simp [telI, h]
    go_enter Tryz.func218, Tryz.ntmps218
    go_wp2_with (go_at_call 221; refine (without_in _ _ _ h5 h6).mono ?_; rintro e w' ⟨rfl, rfl⟩)
    go_ret
    exact ⟨ret_int H.out.symm, rfl⟩
  · have H : Hid (telI t b o = orI t b) := by unfold Hid; simp [telI, h]
    go_enter Tryz.func218, Tryz.ntmps218
    go_wp2_with (go_at_call 222; refine (with_in _ _ _ h5 h6).mono ?_; rintro e w' ⟨rfl, rfl⟩)
    go_ret
    exact ⟨ret_int H.out.symm, rfl⟩

set_option maxHeartbeats 400000 in
theorem wayOk_at (n y : Int) (h : n = 1 ∨ n = 2 ∨ n = 4) (w : World) :
    Calls Tryz.prog 212 #[.int .i64 n, .int .i64 y] w fun e w' => e = .returned (.bool (betw y 0 (n - 1))) ∧ w' = w := by
  rcases h with rfl | rfl | rfl
  all_goals
    go_enter Tryz.func212, Tryz.ntmps212
    go_wp2_with (go_at_call 104; refine (between_any _ _ _ _).mono ?_; rintro e w' ⟨rfl, rfl⟩)
    go_ret
    exact ⟨rfl, rfl⟩
end Go.Proofs.YthbclkpmgcfdnaaGreatDoor
/- The contracts of the program's walk by labels that touches a way. Conditions: it is a tree, and a way. -/
namespace Go
theorem wp_scope_once {P : Program} {a : Act} {w : World} {Q : Exit → Act → World → Prop} {c rest : Code} (l : Nat) (hf : findLabel c l = some rest)
    (first : c.wp P (Exit.jump l (fun a w => rest.wp P (Exit.noGoto Q) a w) Q) a w) : (Code.scope c).wp P Q a w := by
  refine wp_scope_jumps l (fun a w => rest.wp P (Exit.noGoto Q) a w) (fun _ _ => 0) hf first ?_
  intro a w h
  refine wp_mono h ?_
  intro e a' w' h'
  cases e <;> simp_all [Exit.noGoto, Exit.jump]
end Go
namespace Go.Proofs.YthbclkpmgcfdnaaGreatDoor
open Go.ChangeShapes Go.WideShapes Go.ChangeAt Go.RowKit
def touI (t n y : Int) : Int := if n = 1 then t else if n = 2 then telI t 0 (1 - y) else telI (telI t 0 (1 - y / 2)) (1 + y / 2) (1 - y % 2)

set_option maxHeartbeats 400000 in
theorem touched_1 (t y : Int) (w : World) (hy : y = 0) :
    Calls Tryz.prog 213 #[.int .i64 t, .int .i64 1, .int .i64 y] w fun e w' => e = .returned (.int .i64 t) ∧ w' = w := by
  subst hy
  go_enter Tryz.func213, Tryz.ntmps213
  go_wp2
  refine wp_scope_once 0 rfl ?_
  go_wp2
  go_step3
  refine ⟨rfl, ?_⟩
  go_wp2
  rw [Exit.noGoto_ret]
  go_ret
  exact ⟨rfl, rfl⟩

set_option maxHeartbeats 400000 in
theorem touched_2 (t y : Int) (w : World) (hy : y = 0 ∨ y = 1) :
    Calls Tryz.prog 213 #[.int .i64 t, .int .i64 2, .int .i64 y] w fun e w' => e = .returned (.int .i64 (telI t 0 (1 - y))) ∧ w' = w := by
  rcases hy with rfl | rfl
  · go_enter Tryz.func213, Tryz.ntmps213
    go_wp2
    refine wp_scope_once 1 rfl ?_
    go_wp2
    go_step3
    refine ⟨rfl, ?_⟩
    go_wp2_with (first
      | (go_at_call 215; refine (bitOfPair_at _ _ 0 (by omega) _).mono ?_; rintro e w' ⟨rfl, rfl⟩)
      | (go_at_call 217; refine (otherOf_at _ 1 (by decide) _).mono ?_; rintro e w' ⟨rfl, rfl⟩)
      | (go_at_call 218; refine (telling_in _ _ _ (by omega) (by omega) _).mono ?_; rintro e w' ⟨rfl, rfl⟩))
    go_step3
    go_wp2
    rw [Exit.noGoto_ret]
    go_ret
    exact ⟨rfl, rfl⟩
  · go_enter Tryz.func213, Tryz.ntmps213
    go_wp2
    refine wp_scope_once 1 rfl ?_
    go_wp2
    go_step3
    refine ⟨rfl, ?_⟩
    go_wp2_with (first
      | (go_at_call 215; refine (bitOfPair_at _ _ 0 (by omega) _).mono ?_; rintro e w' ⟨rfl, rfl⟩)
      | (go_at_call 217; refine (otherOf_at _ 0 (by decide) _).mono ?_; rintro e w' ⟨rfl, rfl⟩)
      | (go_at_call 218; refine (telling_in _ _ _ (by omega) (by omega) _).mono ?_; rintro e w' ⟨rfl, rfl⟩))
    go_step3
    go_wp2
    rw [Exit.noGoto_ret]
    go_ret
    exact ⟨rfl, rfl⟩

set_option maxHeartbeats 1000000 in
theorem touched_4 (t y : Int) (w : World) (hy : y = 0 ∨ y = 1 ∨ y = 2 ∨ y = 3) :
    Calls Tryz.prog 213 #[.int .i64 t, .int .i64 4, .int .i64 y] w fun e w' => e = .returned (.int .i64 (telI (telI t 0 (1 - y / 2)) (1 + y / 2) (1 - y % 2))) ∧ w' = w := by
  rcases hy with rfl | rfl | rfl | rfl
  · go_enter Tryz.func213, Tryz.ntmps213
    go_wp2
    go_step3
    go_wp2_with (first
      | (go_at_call 215; refine (bitOfPair_at _ _ 1 (by omega) _).mono ?_; rintro e w' ⟨rfl, rfl⟩)
      | (go_at_call 217; refine (otherOf_at _ 1 (by decide) _).mono ?_; rintro e w' ⟨rfl, rfl⟩)
      | (go_at_call 218; refine (telling_in _ _ _ (by omega) (by omega) _).mono ?_; rintro e w' ⟨rfl, rfl⟩))
    go_step3
    go_wp2_with (first
      | (go_at_call 215; refine (bitOfPair_at _ _ 1 (by omega) _).mono ?_; rintro e w' ⟨rfl, rfl⟩)
      | (go_at_call 217; refine (otherOf_at _ 1 (by decide) _).mono ?_; rintro e w' ⟨rfl, rfl⟩)
      | (go_at_call 218; refine (telling_in _ _ _ (by omega) (by omega) _).mono ?_; rintro e w' ⟨rfl, rfl⟩))
    go_step3
    go_wp2
    rw [Exit.noGoto_ret]
    go_ret
    exact ⟨rfl, rfl⟩
  · go_enter Tryz.func213, Tryz.ntmps213
    go_wp2
    go_step3
    go_wp2_with (first
      | (go_at_call 215; refine (bitOfPair_at _ _ 1 (by omega) _).mono ?_; rintro e w' ⟨rfl, rfl⟩)
      | (go_at_call 217; refine (otherOf_at _ 1 (by decide) _).mono ?_; rintro e w' ⟨rfl, rfl⟩)
      | (go_at_call 218; refine (telling_in _ _ _ (by omega) (by omega) _).mono ?_; rintro e w' ⟨rfl, rfl⟩))
    go_step3
    go_wp2_with (first
      | (go_at_call 215; refine (bitOfPair_at _ _ 1 (by omega) _).mono ?_; rintro e w' ⟨rfl, rfl⟩)
      | (go_at_call 217; refine (otherOf_at _ 0 (by decide) _).mono ?_; rintro e w' ⟨rfl, rfl⟩)
      | (go_at_call 218; refine (telling_in _ _ _ (by omega) (by omega) _).mono ?_; rintro e w' ⟨rfl, rfl⟩))
    go_step3
    go_wp2
    rw [Exit.noGoto_ret]
    go_ret
    exact ⟨rfl, rfl⟩
  · go_enter Tryz.func213, Tryz.ntmps213
    go_wp2
    go_step3
    go_wp2_with (first
      | (go_at_call 215; refine (bitOfPair_at _ _ 2 (by omega) _).mono ?_; rintro e w' ⟨rfl, rfl⟩)
      | (go_at_call 217; refine (otherOf_at _ 0 (by decide) _).mono ?_; rintro e w' ⟨rfl, rfl⟩)
      | (go_at_call 218; refine (telling_in _ _ _ (by omega) (by omega) _).mono ?_; rintro e w' ⟨rfl, rfl⟩))
    go_step3
    go_wp2_with (first
      | (go_at_call 215; refine (bitOfPair_at _ _ 2 (by omega) _).mono ?_; rintro e w' ⟨rfl, rfl⟩)
      | (go_at_call 217; refine (otherOf_at _ 1 (by decide) _).mono ?_; rintro e w' ⟨rfl, rfl⟩)
      | (go_at_call 218; refine (telling_in _ _ _ (by omega) (by omega) _).mono ?_; rintro e w' ⟨rfl, rfl⟩))
    go_step3
    go_wp2
    rw [Exit.noGoto_ret]
    go_ret
    exact ⟨rfl, rfl⟩
  · go_enter Tryz.func213, Tryz.ntmps213
    go_wp2
    go_step3
    go_wp2_with (first
      | (go_at_call 215; refine (bitOfPair_at _ _ 2 (by omega) _).mono ?_; rintro e w' ⟨rfl, rfl⟩)
      | (go_at_call 217; refine (otherOf_at _ 0 (by decide) _).mono ?_; rintro e w' ⟨rfl, rfl⟩)
      | (go_at_call 218; refine (telling_in _ _ _ (by omega) (by omega) _).mono ?_; rintro e w' ⟨rfl, rfl⟩))
    go_step3
    go_wp2_with (first
      | (go_at_call 215; refine (bitOfPair_at _ _ 2 (by omega) _).mono ?_; rintro e w' ⟨rfl, rfl⟩)
      | (go_at_call 217; refine (otherOf_at _ 0 (by decide) _).mono ?_; rintro e w' ⟨rfl, rfl⟩)
      | (go_at_call 218; refine (telling_in _ _ _ (by omega) (by omega) _).mono ?_; rintro e w' ⟨rfl, rfl⟩))
    go_step3
    go_wp2
    rw [Exit.noGoto_ret]
    go_ret
    exact ⟨rfl, rfl⟩
def tuI (t n y : Int) : Int := if treeB t n && betw y 0 (n - 1) then touI t n y else -1
theorem tree_pow {t n : Int} (h : treeB t n = true) : n = 1 ∨ n = 2 ∨ n = 4 := by
  simp [treeB] at h
  omega

set_option maxHeartbeats 1000000 in
theorem implTouched_any (t n y : Int) (w : World) :
    Calls Tryz.prog 208 #[.int .i64 t, .int .i64 n, .int .i64 y] w fun e w' => e = .returned (.int .i64 (tuI t n y)) ∧ w' = w := by
  cases h1 : treeB t n
  · have H : Hid (tuI t n y = -1) := by unfold Hid; simp [tuI, h1]
    go_enter Tryz.func208, Tryz.ntmps208
    go_wp2_with (go_at_call 174; refine (implTreeOk_any _ _ _).mono ?_; rintro e w' ⟨rfl, rfl⟩)
    go_ret
    exact ⟨ret_int H.out.symm, rfl⟩
  have hp := tree_pow h1
  cases h2 : betw y 0 (n - 1)
  · have H : Hid (tuI t n y = -1) := by unfold Hid; simp [tuI, h2]
    have hp' : Hid _ := hp
    clear hp
    go_enter Tryz.func208, Tryz.ntmps208
    go_wp2_with (first
      | (go_at_call 174; refine (implTreeOk_any _ _ _).mono ?_; rintro e w' ⟨rfl, rfl⟩)
      | (go_at_call 212; refine (wayOk_at _ _ hp'.out _).mono ?_; rintro e w' ⟨rfl, rfl⟩))
    go_ret
    exact ⟨ret_int H.out.symm, rfl⟩
  · have H : Hid (tuI t n y = touI t n y) := by unfold Hid; simp [tuI, h1, h2]
    have hb : 0 ≤ y ∧ y ≤ n - 1 := by simpa [betw] using h2
    have hp' : Hid _ := hp
    have C : ∀ w, Calls Tryz.prog 213 #[.int .i64 t, .int .i64 n, .int .i64 y] w fun e w' => e = .returned (.int .i64 (touI t n y)) ∧ w' = w := by
      intro w
      rcases hp with rfl | rfl | rfl
      · exact touched_1 t y w (by omega)
      · exact touched_2 t y w (by omega)
      · exact touched_4 t y w (by omega)
    have C' : Hid _ := C
    clear C hp hb
    go_enter Tryz.func208, Tryz.ntmps208
    go_wp2_with (first
      | (go_at_call 174; refine (implTreeOk_any _ _ _).mono ?_; rintro e w' ⟨rfl, rfl⟩)
      | (go_at_call 212; refine (wayOk_at _ _ hp'.out _).mono ?_; rintro e w' ⟨rfl, rfl⟩)
      | (go_at_call 213; refine (C'.out _).mono ?_; rintro e w' ⟨rfl, rfl⟩))
    go_ret
    exact ⟨ret_int H.out.symm, rfl⟩
end Go.Proofs.YthbclkpmgcfdnaaGreatDoor
/- The contracts of the specification's Touched and Victim. No condition. -/
namespace Go.Proofs.YthbclkpmgcfdnaaGreatDoor
open Go.ChangeShapes Go.WideShapes Go.ChangeAt Go.RowKit

set_option maxHeartbeats 400000 in
theorem l5Touched_1 (t y : Int) (w : World) :
    Calls Tryz.prog 201 #[.int .i64 t, .int .i64 1, .int .i64 y] w fun e w' => e = .returned (.int .i64 t) ∧ w' = w := by
  go_enter Tryz.func201, Tryz.ntmps201
  go_wp2
  go_ret
  exact ⟨rfl, rfl⟩

set_option maxHeartbeats 400000 in
theorem l5Touched_2 (t y : Int) (w : World) (ht : t = 0 ∨ t = 1) (hy : y = 0 ∨ y = 1) :
    Calls Tryz.prog 201 #[.int .i64 t, .int .i64 2, .int .i64 y] w fun e w' => e = .returned (.int .i64 (telI t 0 (1 - y))) ∧ w' = w := by
  have H : Hid (1 - y = telI t 0 (1 - y)) := by
    unfold Hid
    rcases ht with rfl | rfl <;> rcases hy with rfl | rfl <;> decide
  go_enter Tryz.func201, Tryz.ntmps201
  go_wp2
  go_ret
  exact ⟨ret_int H.out, rfl⟩
theorem eight {t : Int} (h : 0 ≤ t ∧ t ≤ 7) : t = 0 ∨ t = 1 ∨ t = 2 ∨ t = 3 ∨ t = 4 ∨ t = 5 ∨ t = 6 ∨ t = 7 := by omega

set_option maxHeartbeats 1000000 in
theorem l5Touched_4 (t y : Int) (w : World) (ht : 0 ≤ t ∧ t ≤ 7) (hy : y = 0 ∨ y = 1 ∨ y = 2 ∨ y = 3) :
    Calls Tryz.prog 201 #[.int .i64 t, .int .i64 4, .int .i64 y] w fun e w' => e = .returned (.int .i64 (telI (telI t 0 (1 - y / 2)) (1 + y / 2) (1 - y % 2))) ∧ w' = w := by
  have ht' : Hid _ := ht
  clear ht
  rcases hy with rfl | rfl | rfl | rfl
  all_goals
    go_enter Tryz.func201, Tryz.ntmps201
    go_wp2
    go_ret
    refine ⟨ret_int ?_, rfl⟩
    rcases eight ht'.out with rfl | rfl | rfl | rfl | rfl | rfl | rfl | rfl <;> decide +kernel

def goI (t n : Int) : Int := if n = 1 then 0 else if n = 2 then t else 2 * (t % 2) + t / 2 ^ (1 + t % 2).toNat % 2
def viI (t n : Int) : Int := if treeB t n then goI t n else -1
set_option maxHeartbeats 1000000 in
theorem l5Victim_in (t n : Int) (w : World) (h : treeB t n = true) :
    Calls Tryz.prog 173 #[.int .i64 t, .int .i64 n] w fun e w' => e = .returned (.int .i64 (goI t n)) ∧ w' = w := by
  have h5 := h
  simp [treeB] at h5
  rcases tree_pow h with rfl | rfl | rfl
  · clear h h5
    go_enter Tryz.func173, Tryz.ntmps173
    go_wp2
    go_ret
    exact ⟨rfl, rfl⟩
  · clear h h5
    go_enter Tryz.func173, Tryz.ntmps173
    go_wp2
    go_ret
    exact ⟨rfl, rfl⟩
  · clear h
    rcases eight (t := t) (by omega) with rfl | rfl | rfl | rfl | rfl | rfl | rfl | rfl
    all_goals
      clear h5
      go_enter Tryz.func173, Tryz.ntmps173
      go_wp2
      go_ret
      exact ⟨ret_int (by decide +kernel), rfl⟩

end Go.Proofs.YthbclkpmgcfdnaaGreatDoor
/- The contracts of the program's walk by labels that tells who goes, and of its Victim and VictimBut. No condition. -/
namespace Go.Proofs.YthbclkpmgcfdnaaGreatDoor
open Go.ChangeShapes Go.WideShapes Go.ChangeAt Go.RowKit
def butL (xs : List Int) (k : Int) : Int := (xs.find? (fun x => !inB k x)).getD (-1)
set_option maxHeartbeats 400000 in
theorem bitOfPair_4 (p : Int) (h0 : 0 ≤ p) (h1 : p ≤ 1) (w : World) :
    Calls Tryz.prog 215 #[.int .i64 4, .int .i64 p] w fun e w' => e = .returned (.int .i64 (1 + p)) ∧ w' = w := by
  go_enter Tryz.func215, Tryz.ntmps215
  go_wp2
  go_ret
  exact ⟨rfl, rfl⟩
set_option maxHeartbeats 400000 in
theorem goes_1 (t k : Int) (w : World) :
    Calls Tryz.prog 210 #[.int .i64 t, .int .i64 1, .int .i64 k] w fun e w' => e = .returned (.int .i64 (butL [0] k)) ∧ w' = w := by
  cases h : inB k 0
  · have H : Hid (butL [0] k = 0) := by unfold Hid; simp [butL, h]
    go_enter Tryz.func210, Tryz.ntmps210
    go_wp2
    refine wp_scope_once 0 rfl ?_
    go_wp2
    go_step3
    refine ⟨rfl, ?_⟩
    go_wp2_with (go_at_call 216; refine (has_any _ _ _).mono ?_; rintro e w' ⟨rfl, rfl⟩)
    rw [Exit.noGoto_ret]
    go_ret
    exact ⟨ret_int H.out.symm, rfl⟩
  · have H : Hid (butL [0] k = -1) := by unfold Hid; simp [butL, h]
    go_enter Tryz.func210, Tryz.ntmps210
    go_wp2
    refine wp_scope_once 0 rfl ?_
    go_wp2
    go_step3
    refine ⟨rfl, ?_⟩
    go_wp2_with (go_at_call 216; refine (has_any _ _ _).mono ?_; rintro e w' ⟨rfl, rfl⟩)
    rw [Exit.noGoto_ret]
    go_ret
    exact ⟨ret_int H.out.symm, rfl⟩
set_option maxHeartbeats 1000000 in
theorem goes_2 (t k q b : Int) (w : World) (hq : toldI t 0 = q) (q0 : 0 ≤ q) (q1 : q ≤ 1) (hb : otherI q = b) :
    Calls Tryz.prog 210 #[.int .i64 t, .int .i64 2, .int .i64 k] w fun e w' => e = .returned (.int .i64 (butL [q, b] k)) ∧ w' = w := by
  have hq' : Hid _ := hq
  have hb' : Hid _ := hb
  clear hq hb
  cases h1 : inB k q
  · have H : Hid (butL [q, b] k = q) := by unfold Hid; simp [butL, *]
    go_enter Tryz.func210, Tryz.ntmps210
    go_wp2
    refine wp_scope_once 1 rfl ?_
    go_wp2
    go_step3
    refine ⟨rfl, ?_⟩
    go_wp2_with (first
      | (go_at_call 216; refine (has_any _ _ _).mono ?_; rintro e w' ⟨rfl, rfl⟩)
      | (go_at_call 215; refine (bitOfPair_at _ _ 0 (by omega) _).mono ?_; rintro e w' ⟨rfl, rfl⟩)
      | (go_at_call 214; refine (toldBy_at _ _ q hq'.out _).mono ?_; rintro e w' ⟨rfl, rfl⟩)
      | (go_at_call 217; refine (otherOf_at _ b hb'.out _).mono ?_; rintro e w' ⟨rfl, rfl⟩))
    rw [Exit.noGoto_ret]
    go_ret
    exact ⟨ret_int H.out.symm, rfl⟩
  cases h2 : inB k b
  · have H : Hid (butL [q, b] k = b) := by unfold Hid; simp [butL, *]
    go_enter Tryz.func210, Tryz.ntmps210
    go_wp2
    refine wp_scope_once 1 rfl ?_
    go_wp2
    go_step3
    refine ⟨rfl, ?_⟩
    go_wp2_with (first
      | (go_at_call 216; refine (has_any _ _ _).mono ?_; rintro e w' ⟨rfl, rfl⟩)
      | (go_at_call 215; refine (bitOfPair_at _ _ 0 (by omega) _).mono ?_; rintro e w' ⟨rfl, rfl⟩)
      | (go_at_call 214; refine (toldBy_at _ _ q hq'.out _).mono ?_; rintro e w' ⟨rfl, rfl⟩)
      | (go_at_call 217; refine (otherOf_at _ b hb'.out _).mono ?_; rintro e w' ⟨rfl, rfl⟩))
    go_step3
    go_wp2_with (first
      | (go_at_call 216; refine (has_any _ _ _).mono ?_; rintro e w' ⟨rfl, rfl⟩)
      | (go_at_call 215; refine (bitOfPair_at _ _ 0 (by omega) _).mono ?_; rintro e w' ⟨rfl, rfl⟩)
      | (go_at_call 214; refine (toldBy_at _ _ q hq'.out _).mono ?_; rintro e w' ⟨rfl, rfl⟩)
      | (go_at_call 217; refine (otherOf_at _ b hb'.out _).mono ?_; rintro e w' ⟨rfl, rfl⟩))
    rw [Exit.noGoto_ret]
    go_ret
    exact ⟨ret_int H.out.symm, rfl⟩
  · have H : Hid (butL [q, b] k = -1) := by unfold Hid; simp [butL, *]
    go_enter Tryz.func210, Tryz.ntmps210
    go_wp2
    refine wp_scope_once 1 rfl ?_
    go_wp2
    go_step3
    refine ⟨rfl, ?_⟩
    go_wp2_with (first
      | (go_at_call 216; refine (has_any _ _ _).mono ?_; rintro e w' ⟨rfl, rfl⟩)
      | (go_at_call 215; refine (bitOfPair_at _ _ 0 (by omega) _).mono ?_; rintro e w' ⟨rfl, rfl⟩)
      | (go_at_call 214; refine (toldBy_at _ _ q hq'.out _).mono ?_; rintro e w' ⟨rfl, rfl⟩)
      | (go_at_call 217; refine (otherOf_at _ b hb'.out _).mono ?_; rintro e w' ⟨rfl, rfl⟩))
    go_step3
    go_wp2_with (first
      | (go_at_call 216; refine (has_any _ _ _).mono ?_; rintro e w' ⟨rfl, rfl⟩)
      | (go_at_call 215; refine (bitOfPair_at _ _ 0 (by omega) _).mono ?_; rintro e w' ⟨rfl, rfl⟩)
      | (go_at_call 214; refine (toldBy_at _ _ q hq'.out _).mono ?_; rintro e w' ⟨rfl, rfl⟩)
      | (go_at_call 217; refine (otherOf_at _ b hb'.out _).mono ?_; rintro e w' ⟨rfl, rfl⟩))
    rw [Exit.noGoto_ret]
    go_ret
    exact ⟨ret_int H.out.symm, rfl⟩
set_option maxHeartbeats 2000000 in
theorem goes_4 (t k p q p' r b d : Int) (w : World) (hp : toldI t 0 = p) (p0 : 0 ≤ p) (p1 : p ≤ 1) (hq : toldI t (1 + p) = q) (q0 : 0 ≤ q) (q1 : q ≤ 1) (hb : otherI (p * 2 + q) = b)
    (hpp : otherI p = p') (pp0 : 0 ≤ p') (pp1 : p' ≤ 1) (hr : toldI t (1 + p') = r) (r0 : 0 ≤ r) (r1 : r ≤ 1) (hd : otherI (p' * 2 + r) = d) :
    Calls Tryz.prog 210 #[.int .i64 t, .int .i64 4, .int .i64 k] w fun e w' => e = .returned (.int .i64 (butL [p * 2 + q, b, p' * 2 + r, d] k)) ∧ w' = w := by
  have hp' : Hid _ := hp
  have hq' : Hid _ := hq
  have hb' : Hid _ := hb
  have hpp' : Hid _ := hpp
  have hr' : Hid _ := hr
  have hd' : Hid _ := hd
  clear hp hq hb hpp hr hd
  cases h1 : inB k (p * 2 + q)
  · have H : Hid (butL [p * 2 + q, b, p' * 2 + r, d] k = p * 2 + q) := by unfold Hid; simp [butL, *]
    go_enter Tryz.func210, Tryz.ntmps210
    go_wp2
    refine wp_scope_once 1 rfl ?_
    go_wp2_with fail
    refine (toldBy_at _ _ p hp'.out _).mono ?_
    rintro e w1 ⟨rfl, rfl⟩
    go_wp2_with fail
    go_step3
    go_wp2_with fail
    refine (bitOfPair_4 p p0 p1 _).mono ?_
    rintro e w1 ⟨rfl, rfl⟩
    go_wp2_with fail
    refine (toldBy_at _ _ q hq'.out _).mono ?_
    rintro e w1 ⟨rfl, rfl⟩
    go_wp2_with fail
    refine (has_any _ _ _).mono ?_
    rintro e w1 ⟨rfl, rfl⟩
    go_wp2_with fail
    simp only [Exit.jump]
    go_ret
    exact ⟨ret_int H.out.symm, rfl⟩
  cases h2 : inB k (b)
  · have H : Hid (butL [p * 2 + q, b, p' * 2 + r, d] k = b) := by unfold Hid; simp [butL, *]
    go_enter Tryz.func210, Tryz.ntmps210
    go_wp2
    refine wp_scope_once 1 rfl ?_
    go_wp2_with fail
    refine (toldBy_at _ _ p hp'.out _).mono ?_
    rintro e w1 ⟨rfl, rfl⟩
    go_wp2_with fail
    go_step3
    go_wp2_with fail
    refine (bitOfPair_4 p p0 p1 _).mono ?_
    rintro e w1 ⟨rfl, rfl⟩
    go_wp2_with fail
    refine (toldBy_at _ _ q hq'.out _).mono ?_
    rintro e w1 ⟨rfl, rfl⟩
    go_wp2_with fail
    refine (has_any _ _ _).mono ?_
    rintro e w1 ⟨rfl, rfl⟩
    go_wp2_with fail
    refine (otherOf_at _ b hb'.out _).mono ?_
    rintro e w1 ⟨rfl, rfl⟩
    go_wp2_with fail
    go_step3
    go_wp2_with fail
    refine (has_any _ _ _).mono ?_
    rintro e w1 ⟨rfl, rfl⟩
    go_wp2_with fail
    simp only [Exit.jump]
    go_ret
    exact ⟨ret_int H.out.symm, rfl⟩
  cases h3 : inB k (p' * 2 + r)
  · have H : Hid (butL [p * 2 + q, b, p' * 2 + r, d] k = p' * 2 + r) := by unfold Hid; simp [butL, *]
    go_enter Tryz.func210, Tryz.ntmps210
    go_wp2
    refine wp_scope_once 1 rfl ?_
    go_wp2_with fail
    refine (toldBy_at _ _ p hp'.out _).mono ?_
    rintro e w1 ⟨rfl, rfl⟩
    go_wp2_with fail
    go_step3
    go_wp2_with fail
    refine (bitOfPair_4 p p0 p1 _).mono ?_
    rintro e w1 ⟨rfl, rfl⟩
    go_wp2_with fail
    refine (toldBy_at _ _ q hq'.out _).mono ?_
    rintro e w1 ⟨rfl, rfl⟩
    go_wp2_with fail
    refine (has_any _ _ _).mono ?_
    rintro e w1 ⟨rfl, rfl⟩
    go_wp2_with fail
    refine (otherOf_at _ b hb'.out _).mono ?_
    rintro e w1 ⟨rfl, rfl⟩
    go_wp2_with fail
    go_step3
    go_wp2_with fail
    refine (has_any _ _ _).mono ?_
    rintro e w1 ⟨rfl, rfl⟩
    go_wp2_with fail
    refine (otherOf_at _ p' hpp'.out _).mono ?_
    rintro e w1 ⟨rfl, rfl⟩
    go_wp2_with fail
    go_step3
    refine ⟨rfl, ?_⟩
    go_wp2_with fail
    refine (bitOfPair_4 p' pp0 pp1 _).mono ?_
    rintro e w1 ⟨rfl, rfl⟩
    go_wp2_with fail
    refine (toldBy_at _ _ r hr'.out _).mono ?_
    rintro e w1 ⟨rfl, rfl⟩
    go_wp2_with fail
    refine (has_any _ _ _).mono ?_
    rintro e w1 ⟨rfl, rfl⟩
    go_wp2_with fail
    rw [Exit.noGoto_ret]
    go_ret
    exact ⟨ret_int H.out.symm, rfl⟩
  cases h4 : inB k (d)
  · have H : Hid (butL [p * 2 + q, b, p' * 2 + r, d] k = d) := by unfold Hid; simp [butL, *]
    go_enter Tryz.func210, Tryz.ntmps210
    go_wp2
    refine wp_scope_once 1 rfl ?_
    go_wp2_with fail
    refine (toldBy_at _ _ p hp'.out _).mono ?_
    rintro e w1 ⟨rfl, rfl⟩
    go_wp2_with fail
    go_step3
    go_wp2_with fail
    refine (bitOfPair_4 p p0 p1 _).mono ?_
    rintro e w1 ⟨rfl, rfl⟩
    go_wp2_with fail
    refine (toldBy_at _ _ q hq'.out _).mono ?_
    rintro e w1 ⟨rfl, rfl⟩
    go_wp2_with fail
    refine (has_any _ _ _).mono ?_
    rintro e w1 ⟨rfl, rfl⟩
    go_wp2_with fail
    refine (otherOf_at _ b hb'.out _).mono ?_
    rintro e w1 ⟨rfl, rfl⟩
    go_wp2_with fail
    go_step3
    go_wp2_with fail
    refine (has_any _ _ _).mono ?_
    rintro e w1 ⟨rfl, rfl⟩
    go_wp2_with fail
    refine (otherOf_at _ p' hpp'.out _).mono ?_
    rintro e w1 ⟨rfl, rfl⟩
    go_wp2_with fail
    go_step3
    refine ⟨rfl, ?_⟩
    go_wp2_with fail
    refine (bitOfPair_4 p' pp0 pp1 _).mono ?_
    rintro e w1 ⟨rfl, rfl⟩
    go_wp2_with fail
    refine (toldBy_at _ _ r hr'.out _).mono ?_
    rintro e w1 ⟨rfl, rfl⟩
    go_wp2_with fail
    refine (has_any _ _ _).mono ?_
    rintro e w1 ⟨rfl, rfl⟩
    go_wp2_with fail
    refine (otherOf_at _ d hd'.out _).mono ?_
    rintro e w1 ⟨rfl, rfl⟩
    go_wp2_with fail
    go_step3
    go_wp2_with fail
    refine (has_any _ _ _).mono ?_
    rintro e w1 ⟨rfl, rfl⟩
    go_wp2_with fail
    rw [Exit.noGoto_ret]
    go_ret
    exact ⟨ret_int H.out.symm, rfl⟩
  · have H : Hid (butL [p * 2 + q, b, p' * 2 + r, d] k = -1) := by unfold Hid; simp [butL, *]
    go_enter Tryz.func210, Tryz.ntmps210
    go_wp2
    refine wp_scope_once 1 rfl ?_
    go_wp2_with fail
    refine (toldBy_at _ _ p hp'.out _).mono ?_
    rintro e w1 ⟨rfl, rfl⟩
    go_wp2_with fail
    go_step3
    go_wp2_with fail
    refine (bitOfPair_4 p p0 p1 _).mono ?_
    rintro e w1 ⟨rfl, rfl⟩
    go_wp2_with fail
    refine (toldBy_at _ _ q hq'.out _).mono ?_
    rintro e w1 ⟨rfl, rfl⟩
    go_wp2_with fail
    refine (has_any _ _ _).mono ?_
    rintro e w1 ⟨rfl, rfl⟩
    go_wp2_with fail
    refine (otherOf_at _ b hb'.out _).mono ?_
    rintro e w1 ⟨rfl, rfl⟩
    go_wp2_with fail
    go_step3
    go_wp2_with fail
    refine (has_any _ _ _).mono ?_
    rintro e w1 ⟨rfl, rfl⟩
    go_wp2_with fail
    refine (otherOf_at _ p' hpp'.out _).mono ?_
    rintro e w1 ⟨rfl, rfl⟩
    go_wp2_with fail
    go_step3
    refine ⟨rfl, ?_⟩
    go_wp2_with fail
    refine (bitOfPair_4 p' pp0 pp1 _).mono ?_
    rintro e w1 ⟨rfl, rfl⟩
    go_wp2_with fail
    refine (toldBy_at _ _ r hr'.out _).mono ?_
    rintro e w1 ⟨rfl, rfl⟩
    go_wp2_with fail
    refine (has_any _ _ _).mono ?_
    rintro e w1 ⟨rfl, rfl⟩
    go_wp2_with fail
    refine (otherOf_at _ d hd'.out _).mono ?_
    rintro e w1 ⟨rfl, rfl⟩
    go_wp2_with fail
    go_step3
    go_wp2_with fail
    refine (has_any _ _ _).mono ?_
    rintro e w1 ⟨rfl, rfl⟩
    go_wp2_with fail
    rw [Exit.noGoto_ret]
    go_ret
    exact ⟨ret_int H.out.symm, rfl⟩
end Go.Proofs.YthbclkpmgcfdnaaGreatDoor
/- The contracts of the program's Victim and VictimBut: the first of a list that is not kept. No condition. -/
namespace Go.Proofs.YthbclkpmgcfdnaaGreatDoor
open Go.ChangeShapes Go.WideShapes Go.ChangeAt Go.RowKit
def backI (t : Int) : Int := 2 * (1 - t % 2) + t / 2 ^ (1 + (1 - t % 2)).toNat % 2
def ordI (t n : Int) : List Int := if n = 1 then [0] else if n = 2 then [t, bits BinOp.xor IntKind.i64 t 1] else [goI t 4, bits BinOp.xor IntKind.i64 (goI t 4) 1, backI t, bits BinOp.xor IntKind.i64 (backI t) 1]
def vbI (t n k : Int) : Int := if treeB t n && setB k then butL (ordI t n) k else -1
theorem goes_in (t n k : Int) (w : World) (h : treeB t n = true) :
    Calls Tryz.prog 210 #[.int .i64 t, .int .i64 n, .int .i64 k] w fun e w' => e = .returned (.int .i64 (butL (ordI t n) k)) ∧ w' = w := by
  have h5 := h
  simp [treeB] at h5
  rcases tree_pow h with rfl | rfl | rfl
  · exact goes_1 t k w
  · obtain rfl | rfl : t = 0 ∨ t = 1 := by omega
    · exact goes_2 0 k 0 1 w (by decide) (by decide) (by decide) (by decide)
    · exact goes_2 1 k 1 0 w (by decide) (by decide) (by decide) (by decide)
  · clear h
    rcases eight (t := t) (by omega) with rfl | rfl | rfl | rfl | rfl | rfl | rfl | rfl
    · have e : ordI 0 4 = [0 * 2 + 0, 1, 1 * 2 + 0, 3] := by decide +kernel
      rw [e]
      exact goes_4 0 k 0 0 1 0 1 3 w (by decide) (by decide) (by decide) (by decide) (by decide) (by decide) (by decide) (by decide) (by decide) (by decide) (by decide) (by decide) (by decide) (by decide)
    · have e : ordI 1 4 = [1 * 2 + 0, 3, 0 * 2 + 0, 1] := by decide +kernel
      rw [e]
      exact goes_4 1 k 1 0 0 0 3 1 w (by decide) (by decide) (by decide) (by decide) (by decide) (by decide) (by decide) (by decide) (by decide) (by decide) (by decide) (by decide) (by decide) (by decide)
    · have e : ordI 2 4 = [0 * 2 + 1, 0, 1 * 2 + 0, 3] := by decide +kernel
      rw [e]
      exact goes_4 2 k 0 1 1 0 0 3 w (by decide) (by decide) (by decide) (by decide) (by decide) (by decide) (by decide) (by decide) (by decide) (by decide) (by decide) (by decide) (by decide) (by decide)
    · have e : ordI 3 4 = [1 * 2 + 0, 3, 0 * 2 + 1, 0] := by decide +kernel
      rw [e]
      exact goes_4 3 k 1 0 0 1 3 0 w (by decide) (by decide) (by decide) (by decide) (by decide) (by decide) (by decide) (by decide) (by decide) (by decide) (by decide) (by decide) (by decide) (by decide)
    · have e : ordI 4 4 = [0 * 2 + 0, 1, 1 * 2 + 1, 2] := by decide +kernel
      rw [e]
      exact goes_4 4 k 0 0 1 1 1 2 w (by decide) (by decide) (by decide) (by decide) (by decide) (by decide) (by decide) (by decide) (by decide) (by decide) (by decide) (by decide) (by decide) (by decide)
    · have e : ordI 5 4 = [1 * 2 + 1, 2, 0 * 2 + 0, 1] := by decide +kernel
      rw [e]
      exact goes_4 5 k 1 1 0 0 2 1 w (by decide) (by decide) (by decide) (by decide) (by decide) (by decide) (by decide) (by decide) (by decide) (by decide) (by decide) (by decide) (by decide) (by decide)
    · have e : ordI 6 4 = [0 * 2 + 1, 0, 1 * 2 + 1, 2] := by decide +kernel
      rw [e]
      exact goes_4 6 k 0 1 1 1 0 2 w (by decide) (by decide) (by decide) (by decide) (by decide) (by decide) (by decide) (by decide) (by decide) (by decide) (by decide) (by decide) (by decide) (by decide)
    · have e : ordI 7 4 = [1 * 2 + 1, 2, 0 * 2 + 1, 0] := by decide +kernel
      rw [e]
      exact goes_4 7 k 1 1 0 1 2 0 w (by decide) (by decide) (by decide) (by decide) (by decide) (by decide) (by decide) (by decide) (by decide) (by decide) (by decide) (by decide) (by decide) (by decide)
set_option maxHeartbeats 1000000 in
theorem implBut_any (t n k : Int) (w : World) :
    Calls Tryz.prog 194 #[.int .i64 t, .int .i64 n, .int .i64 k] w fun e w' => e = .returned (.int .i64 (vbI t n k)) ∧ w' = w := by
  cases h1 : treeB t n
  · have H : Hid (vbI t n k = -1) := by unfold Hid; simp [vbI, h1]
    go_enter Tryz.func194, Tryz.ntmps194
    go_wp2_with (go_at_call 174; refine (implTreeOk_any _ _ _).mono ?_; rintro e w' ⟨rfl, rfl⟩)
    go_ret
    exact ⟨ret_int H.out.symm, rfl⟩
  cases h2 : setB k
  · have H : Hid (vbI t n k = -1) := by unfold Hid; simp [vbI, h2]
    go_enter Tryz.func194, Tryz.ntmps194
    go_wp2_with (first
      | (go_at_call 174; refine (implTreeOk_any _ _ _).mono ?_; rintro e w' ⟨rfl, rfl⟩)
      | (go_at_call 209; refine (ok_any _ _).mono ?_; rintro e w' ⟨rfl, rfl⟩))
    go_ret
    exact ⟨ret_int H.out.symm, rfl⟩
  · have H : Hid (vbI t n k = butL (ordI t n) k) := by unfold Hid; simp [vbI, h1, h2]
    go_enter Tryz.func194, Tryz.ntmps194
    go_wp2_with (first
      | (go_at_call 174; refine (implTreeOk_any _ _ _).mono ?_; rintro e w' ⟨rfl, rfl⟩)
      | (go_at_call 209; refine (ok_any _ _).mono ?_; rintro e w' ⟨rfl, rfl⟩)
      | (go_at_call 210; refine (goes_in _ _ _ _ h1).mono ?_; rintro e w' ⟨rfl, rfl⟩))
    go_ret
    exact ⟨ret_int H.out.symm, rfl⟩
theorem vb_zero (t n : Int) : vbI t n 0 = viI t n := by
  cases h : treeB t n
  · simp [vbI, viI, h]
  · have h5 := h
    simp [treeB] at h5
    rcases tree_pow h with rfl | rfl | rfl
    · have : t = 0 := by omega
      subst this
      decide +kernel
    · obtain rfl | rfl : t = 0 ∨ t = 1 := by omega
      · decide +kernel
      · decide +kernel
    · clear h
      rcases eight (t := t) (by omega) with rfl | rfl | rfl | rfl | rfl | rfl | rfl | rfl <;> decide +kernel
set_option maxHeartbeats 400000 in
theorem implVictim_any (t n : Int) (w : World) :
    Calls Tryz.prog 164 #[.int .i64 t, .int .i64 n] w fun e w' => e = .returned (.int .i64 (viI t n)) ∧ w' = w := by
  rw [← vb_zero]
  go_enter Tryz.func164, Tryz.ntmps164
  go_wp2_with (go_at_call 194; refine (implBut_any _ _ _ _).mono ?_; rintro e w' ⟨rfl, rfl⟩)
  go_ret
  exact ⟨rfl, rfl⟩
end Go.Proofs.YthbclkpmgcfdnaaGreatDoor
