/- The contracts of the program's walk by labels that touches a way. Conditions: it is a tree, and a way. -/
import Derived.Test.YtmldilmiihafoaaTree
import Derived.WalkMore
import Derived.ScopeJumps
namespace Go
theorem wp_scope_once {P : Program} {a : Act} {w : World} {Q : Exit → Act → World → Prop} {c rest : Code} (l : Nat) (hf : findLabel c l = some rest)
    (first : c.wp P (Exit.jump l (fun a w => rest.wp P (Exit.noGoto Q) a w) Q) a w) : (Code.scope c).wp P Q a w := by
  refine wp_scope_jumps l (fun a w => rest.wp P (Exit.noGoto Q) a w) (fun _ _ => 0) hf first ?_
  intro a w h
  refine wp_mono h ?_
  intro e a' w' h'
  cases e <;> simp_all [Exit.noGoto, Exit.jump]
end Go
namespace Go.Proofs.Ytmldilmiihafoaa
open Go.ChangeShapes Go.WideShapes Go.ChangeAt Go.RowKit

def touI (t n y : Int) : Int := if n = 1 then t else if n = 2 then telI t 0 (1 - y) else telI (telI t 0 (1 - y / 2)) (1 + y / 2) (1 - y % 2)

set_option maxHeartbeats 400000 in
theorem touched_1 (t y : Int) (w : World) (hy : y = 0) :
    Calls Try.prog 108 #[.int .i64 t, .int .i64 1, .int .i64 y] w fun e w' => e = .returned (.int .i64 t) ∧ w' = w := by
  subst hy
  go_enter Try.func108, Try.ntmps108
  go_wp2
  refine wp_scope_once 0 rfl ?_
  go_wp2
  go_step3
  refine ⟨rfl, ?_⟩
  go_wp2
  rw [Exit.noGoto_ret]
  go_ret
  exact ⟨rfl, rfl⟩

set_option maxHeartbeats 400000 in
theorem touched_2 (t y : Int) (w : World) (hy : y = 0 ∨ y = 1) :
    Calls Try.prog 108 #[.int .i64 t, .int .i64 2, .int .i64 y] w fun e w' => e = .returned (.int .i64 (telI t 0 (1 - y))) ∧ w' = w := by
  rcases hy with rfl | rfl
  · go_enter Try.func108, Try.ntmps108
    go_wp2
    refine wp_scope_once 1 rfl ?_
    go_wp2
    go_step3
    refine ⟨rfl, ?_⟩
    go_wp2_with (first
      | (go_at_call 117; refine (bitOfPair_at _ _ 0 (by omega) _).mono ?_; rintro e w' ⟨rfl, rfl⟩)
      | (go_at_call 116; refine (otherOf_at _ 1 (by decide) _).mono ?_; rintro e w' ⟨rfl, rfl⟩)
      | (go_at_call 115; refine (telling_in _ _ _ (by omega) (by omega) _).mono ?_; rintro e w' ⟨rfl, rfl⟩))
    go_step3
    go_wp2
    rw [Exit.noGoto_ret]
    go_ret
    exact ⟨rfl, rfl⟩
  · go_enter Try.func108, Try.ntmps108
    go_wp2
    refine wp_scope_once 1 rfl ?_
    go_wp2
    go_step3
    refine ⟨rfl, ?_⟩
    go_wp2_with (first
      | (go_at_call 117; refine (bitOfPair_at _ _ 0 (by omega) _).mono ?_; rintro e w' ⟨rfl, rfl⟩)
      | (go_at_call 116; refine (otherOf_at _ 0 (by decide) _).mono ?_; rintro e w' ⟨rfl, rfl⟩)
      | (go_at_call 115; refine (telling_in _ _ _ (by omega) (by omega) _).mono ?_; rintro e w' ⟨rfl, rfl⟩))
    go_step3
    go_wp2
    rw [Exit.noGoto_ret]
    go_ret
    exact ⟨rfl, rfl⟩

set_option maxHeartbeats 1000000 in
theorem touched_4 (t y : Int) (w : World) (hy : y = 0 ∨ y = 1 ∨ y = 2 ∨ y = 3) :
    Calls Try.prog 108 #[.int .i64 t, .int .i64 4, .int .i64 y] w fun e w' => e = .returned (.int .i64 (telI (telI t 0 (1 - y / 2)) (1 + y / 2) (1 - y % 2))) ∧ w' = w := by
  rcases hy with rfl | rfl | rfl | rfl
  · go_enter Try.func108, Try.ntmps108
    go_wp2
    go_step3
    go_wp2_with (first
      | (go_at_call 117; refine (bitOfPair_at _ _ 1 (by omega) _).mono ?_; rintro e w' ⟨rfl, rfl⟩)
      | (go_at_call 116; refine (otherOf_at _ 1 (by decide) _).mono ?_; rintro e w' ⟨rfl, rfl⟩)
      | (go_at_call 115; refine (telling_in _ _ _ (by omega) (by omega) _).mono ?_; rintro e w' ⟨rfl, rfl⟩))
    go_step3
    go_wp2_with (first
      | (go_at_call 117; refine (bitOfPair_at _ _ 1 (by omega) _).mono ?_; rintro e w' ⟨rfl, rfl⟩)
      | (go_at_call 116; refine (otherOf_at _ 1 (by decide) _).mono ?_; rintro e w' ⟨rfl, rfl⟩)
      | (go_at_call 115; refine (telling_in _ _ _ (by omega) (by omega) _).mono ?_; rintro e w' ⟨rfl, rfl⟩))
    go_step3
    go_wp2
    rw [Exit.noGoto_ret]
    go_ret
    exact ⟨rfl, rfl⟩
  · go_enter Try.func108, Try.ntmps108
    go_wp2
    go_step3
    go_wp2_with (first
      | (go_at_call 117; refine (bitOfPair_at _ _ 1 (by omega) _).mono ?_; rintro e w' ⟨rfl, rfl⟩)
      | (go_at_call 116; refine (otherOf_at _ 1 (by decide) _).mono ?_; rintro e w' ⟨rfl, rfl⟩)
      | (go_at_call 115; refine (telling_in _ _ _ (by omega) (by omega) _).mono ?_; rintro e w' ⟨rfl, rfl⟩))
    go_step3
    go_wp2_with (first
      | (go_at_call 117; refine (bitOfPair_at _ _ 1 (by omega) _).mono ?_; rintro e w' ⟨rfl, rfl⟩)
      | (go_at_call 116; refine (otherOf_at _ 0 (by decide) _).mono ?_; rintro e w' ⟨rfl, rfl⟩)
      | (go_at_call 115; refine (telling_in _ _ _ (by omega) (by omega) _).mono ?_; rintro e w' ⟨rfl, rfl⟩))
    go_step3
    go_wp2
    rw [Exit.noGoto_ret]
    go_ret
    exact ⟨rfl, rfl⟩
  · go_enter Try.func108, Try.ntmps108
    go_wp2
    go_step3
    go_wp2_with (first
      | (go_at_call 117; refine (bitOfPair_at _ _ 2 (by omega) _).mono ?_; rintro e w' ⟨rfl, rfl⟩)
      | (go_at_call 116; refine (otherOf_at _ 0 (by decide) _).mono ?_; rintro e w' ⟨rfl, rfl⟩)
      | (go_at_call 115; refine (telling_in _ _ _ (by omega) (by omega) _).mono ?_; rintro e w' ⟨rfl, rfl⟩))
    go_step3
    go_wp2_with (first
      | (go_at_call 117; refine (bitOfPair_at _ _ 2 (by omega) _).mono ?_; rintro e w' ⟨rfl, rfl⟩)
      | (go_at_call 116; refine (otherOf_at _ 1 (by decide) _).mono ?_; rintro e w' ⟨rfl, rfl⟩)
      | (go_at_call 115; refine (telling_in _ _ _ (by omega) (by omega) _).mono ?_; rintro e w' ⟨rfl, rfl⟩))
    go_step3
    go_wp2
    rw [Exit.noGoto_ret]
    go_ret
    exact ⟨rfl, rfl⟩
  · go_enter Try.func108, Try.ntmps108
    go_wp2
    go_step3
    go_wp2_with (first
      | (go_at_call 117; refine (bitOfPair_at _ _ 2 (by omega) _).mono ?_; rintro e w' ⟨rfl, rfl⟩)
      | (go_at_call 116; refine (otherOf_at _ 0 (by decide) _).mono ?_; rintro e w' ⟨rfl, rfl⟩)
      | (go_at_call 115; refine (telling_in _ _ _ (by omega) (by omega) _).mono ?_; rintro e w' ⟨rfl, rfl⟩))
    go_step3
    go_wp2_with (first
      | (go_at_call 117; refine (bitOfPair_at _ _ 2 (by omega) _).mono ?_; rintro e w' ⟨rfl, rfl⟩)
      | (go_at_call 116; refine (otherOf_at _ 0 (by decide) _).mono ?_; rintro e w' ⟨rfl, rfl⟩)
      | (go_at_call 115; refine (telling_in _ _ _ (by omega) (by omega) _).mono ?_; rintro e w' ⟨rfl, rfl⟩))
    go_step3
    go_wp2
    rw [Exit.noGoto_ret]
    go_ret
    exact ⟨rfl, rfl⟩

def tuI (t n y : Int) : Int := if treeB t n && betw y 0 (n - 1) then touI t n y else -1

theorem tree_pow {t n : Int} (h : treeB t n = true) : n = 1 ∨ n = 2 ∨ n = 4 := by
  simp [treeB] at h
  omega

set_option maxHeartbeats 1000000 in
theorem implTouched_any (t n y : Int) (w : World) :
    Calls Try.prog 90 #[.int .i64 t, .int .i64 n, .int .i64 y] w fun e w' => e = .returned (.int .i64 (tuI t n y)) ∧ w' = w := by
  cases h1 : treeB t n
  · have H : Hid (tuI t n y = -1) := by unfold Hid; simp [tuI, h1]
    go_enter Try.func90, Try.ntmps90
    go_wp2_with (go_at_call 94; refine (implTreeOk_any _ _ _).mono ?_; rintro e w' ⟨rfl, rfl⟩)
    go_ret
    exact ⟨ret_int H.out.symm, rfl⟩
  have hp := tree_pow h1
  cases h2 : betw y 0 (n - 1)
  · have H : Hid (tuI t n y = -1) := by unfold Hid; simp [tuI, h2]
    have hp' : Hid _ := hp
    clear hp
    go_enter Try.func90, Try.ntmps90
    go_wp2_with (first
      | (go_at_call 94; refine (implTreeOk_any _ _ _).mono ?_; rintro e w' ⟨rfl, rfl⟩)
      | (go_at_call 107; refine (wayOk_at _ _ hp'.out _).mono ?_; rintro e w' ⟨rfl, rfl⟩))
    go_ret
    exact ⟨ret_int H.out.symm, rfl⟩
  · have H : Hid (tuI t n y = touI t n y) := by unfold Hid; simp [tuI, h1, h2]
    have hb : 0 ≤ y ∧ y ≤ n - 1 := by simpa [betw] using h2
    have hp' : Hid _ := hp
    have C : ∀ w, Calls Try.prog 108 #[.int .i64 t, .int .i64 n, .int .i64 y] w fun e w' => e = .returned (.int .i64 (touI t n y)) ∧ w' = w := by
      intro w
      rcases hp with rfl | rfl | rfl
      · exact touched_1 t y w (by omega)
      · exact touched_2 t y w (by omega)
      · exact touched_4 t y w (by omega)
    have C' : Hid _ := C
    clear C hp hb
    go_enter Try.func90, Try.ntmps90
    go_wp2_with (first
      | (go_at_call 94; refine (implTreeOk_any _ _ _).mono ?_; rintro e w' ⟨rfl, rfl⟩)
      | (go_at_call 107; refine (wayOk_at _ _ hp'.out _).mono ?_; rintro e w' ⟨rfl, rfl⟩)
      | (go_at_call 108; refine (C'.out _).mono ?_; rintro e w' ⟨rfl, rfl⟩))
    go_ret
    exact ⟨ret_int H.out.symm, rfl⟩

end Go.Proofs.Ytmldilmiihafoaa
