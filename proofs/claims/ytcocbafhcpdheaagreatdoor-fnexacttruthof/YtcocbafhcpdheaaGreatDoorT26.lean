import Derived.Test.YtcocbafhcpdheaaGreatDoorT00Box
import Derived.Test.YtcocbafhcpdheaaGreatDoorT10
import Derived.Laws.EntriesVeiled
import Derived.Deep.WholeRow
namespace Go.Proofs.YtcocbafhcpdheaaGreatDoor
set_option maxHeartbeats 1000000
set_option maxRecDepth 20000
def zDW {α : Type} (p : α → Bool) (xs : List α) : Int := match xs.findIdx? (fun u => !p u) with
 | some i => (i : Int)
 | none => -1
theorem zEu {α : Type} {p : α → Bool} {xs : List α} {k : Nat} {u : α} (hu : xs[k]? = some u) (hp : p u = false) (hno : ∀ j v, j < k → xs[j]? = some v → p v = true) : zDW p xs = (k : Int) := by
 have a := (List.getElem?_eq_some_iff.1 hu).1;have : xs.findIdx? (fun u => !p u) = some k := by
  rw [List.findIdx?_eq_some_iff_getElem];refine ⟨a, ?_, fun j hj => ?_⟩
  ·rw [List.getElem?_eq_getElem a] at hu;cases hu;simp [hp]
  ·have := hno j _ hj (List.getElem?_eq_getElem (by omega));simp [this]
 unfold zDW;rw [this]
theorem zDT {α : Type} {p : α → Bool} {xs : List α} (hno : ∀ (j : Nat) (v : α), xs[j]? = some v → p v = true) : zDW p xs = -1 := by
 have : xs.findIdx? (fun u => !p u) = none := by
  rw [List.findIdx?_eq_none_iff];intro u b;obtain ⟨j, a⟩ := List.getElem?_of_mem b;simp [hno j u a]
 unfold zDW;rw [this]
theorem zD8 {α : Type} (p : α → Bool) (xs : List α) : xs.all p = decide (zDW p xs < 0) := by
 cases h : xs.all p
 ·have b : ¬ ∀ x ∈ xs, p x = true := fun hh => by rw [List.all_eq_true.2 hh] at h; cases h
  cases a : xs.findIdx? (fun u => !p u) with
  | none =>
   rw [List.findIdx?_eq_none_iff] at a;exact (b fun x hx => by have := a x hx; simpa using this).elim
  | some i => simp [zDW, a]
 ·rw [zDT fun j v hv => List.all_eq_true.1 h v (List.mem_of_getElem? hv)];rfl
open Go.ChangeShapes Go.WideShapes Go.ChangeAt Go.RowKit
def zEX (k : Int) : Int := if k = 1 then 0 else 9999
def zEY (k : Int) : Int := if k = 5 then 9999 else 0
def opB (k a x y : Int) : Bool := zA8 k 1 5 && (zA8 a 0 31 && (zA8 x 0 (zEX k) && zA8 y 0 (zEY k)))
theorem zDz (w : World) (o : Obj) (c c' : Array Value) (t : TypeId) : ((w.alloc o).alloc (.cells c t)).setRow (w.heap.size + 1) c' = (w.alloc o).alloc (.cells c' t) := by
 have := World.setRow_alloc_new (w.alloc o) c c' t;rwa [show (w.alloc o).heap.size = w.heap.size + 1 by simp] at this
theorem zEv (w : World) (o o2 : Obj) : ((w.alloc o).alloc o2).heap[w.heap.size + 1]? = some o2 := by
 have := heap_alloc_last (w.alloc o) o2;rwa [show (w.alloc o).heap.size = w.heap.size + 1 by simp] at this
theorem zJ0 {W : World} {g : Nat} {v0 v1 v2 v3 : Value} {t : TypeId} (R : W.heap[g]? = some (.cells #[v0, v1, v2, v3] t (0, 0))) :
    (∀ n : Cls (fun wx => Below W.heap.size W wx), n.w.cell? ⟨g, 0, none⟩ = some v0) ∧ (∀ n : Cls (fun wx => Below W.heap.size W wx), n.w.cell? ⟨g, 1, none⟩ = some v1) ∧
     (∀ n : Cls (fun wx => Below W.heap.size W wx), n.w.cell? ⟨g, 2, none⟩ = some v2) ∧ (∀ n : Cls (fun wx => Below W.heap.size W wx), n.w.cell? ⟨g, 3, none⟩ = some v3) := by
 refine ⟨fun n => ?_, fun n => ?_, fun n => ?_, fun n => ?_⟩
 ·rw [cell_of_row n.w g 0 _ t (0, 0) (zAb n.h R)]; rfl
 ·rw [cell_of_row n.w g 1 _ t (0, 0) (zAb n.h R)]; rfl
 ·rw [cell_of_row n.w g 2 _ t (0, 0) (zAb n.h R)]; rfl
 ·rw [cell_of_row n.w g 3 _ t (0, 0) (zAb n.h R)]; rfl
theorem zOw {w w' : World} {n : Nat} (h : Below n w w') {k : Nat} : Below n w (w'.drewN k) := ⟨h.os, h.tape, h.output, h.size, h.block⟩
theorem opKind {k : Int} (h : zA8 k 1 5 = true) : k = 1 ∨ k = 2 ∨ k = 3 ∨ k = 4 ∨ k = 5 := by simp [zA8] at h; omega
theorem deedOf1 (w : World) :
    Calls Tryz.prog 262 #[.int .i64 1] w fun e w' => e = .returned (.agg #[.int .i64 0, .int .i64 0, .func (.func 277) #[] #[], .func (.func 278) #[] #[]]) ∧ Below w.heap.size w w' := by
 go_enter Tryz.func262, Tryz.ntmps262;go_upto_region 1 with fail
 iterate 23 go_step
 refine wp_store_row 300 _ _ rfl (w.heap.size + 1) _ (by rfl) (by rfl) 300 _ (zEv _ _ _) (by kernel_rfl) (by rfl) (by kernel_rfl) ?_;rw [zDz];go_wp2;refine bodyPost_ret (v := .agg #[.int .i64 0, .int .i64 0, .func (.func 277) #[] #[], .func (.func 278) #[] #[]]) (by simp [results, Tryz.results262, go_sem]) rfl ⟨rfl, ?_⟩;repeat first
  | exact Below.refl _ _
  | refine Below.setCell ?_ (by simp <;> omega) _
  | refine Below.alloc ?_ (by simp <;> omega) _
  | refine Below.drew ?_
theorem deedOf2 (w : World) :
    Calls Tryz.prog 262 #[.int .i64 2] w fun e w' => e = .returned (.agg #[.int .i64 9999, .int .i64 0, .func (.func 279) #[] #[], .func (.func 280) #[] #[]]) ∧ Below w.heap.size w w' := by
 go_enter Tryz.func262, Tryz.ntmps262;go_upto_region 1 with fail
 iterate 23 go_step
 refine wp_store_row 300 _ _ rfl (w.heap.size + 1) _ (by rfl) (by rfl) 300 _ (zEv _ _ _) (by kernel_rfl) (by rfl) (by kernel_rfl) ?_;rw [zDz];go_wp2;refine bodyPost_ret (v := .agg #[.int .i64 9999, .int .i64 0, .func (.func 279) #[] #[], .func (.func 280) #[] #[]]) (by simp [results, Tryz.results262, go_sem]) rfl ⟨rfl, ?_⟩;repeat first
  | exact Below.refl _ _
  | refine Below.setCell ?_ (by simp <;> omega) _
  | refine Below.alloc ?_ (by simp <;> omega) _
  | refine Below.drew ?_
theorem deedOf3 (w : World) :
    Calls Tryz.prog 262 #[.int .i64 3] w fun e w' => e = .returned (.agg #[.int .i64 9999, .int .i64 0, .func (.func 281) #[] #[], .func (.func 278) #[] #[]]) ∧ Below w.heap.size w w' := by
 go_enter Tryz.func262, Tryz.ntmps262;go_upto_region 1 with fail
 iterate 23 go_step
 refine wp_store_row 300 _ _ rfl (w.heap.size + 1) _ (by rfl) (by rfl) 300 _ (zEv _ _ _) (by kernel_rfl) (by rfl) (by kernel_rfl) ?_;rw [zDz];go_wp2;refine bodyPost_ret (v := .agg #[.int .i64 9999, .int .i64 0, .func (.func 281) #[] #[], .func (.func 278) #[] #[]]) (by simp [results, Tryz.results262, go_sem]) rfl ⟨rfl, ?_⟩;repeat first
  | exact Below.refl _ _
  | refine Below.setCell ?_ (by simp <;> omega) _
  | refine Below.alloc ?_ (by simp <;> omega) _
  | refine Below.drew ?_
theorem deedOf4 (w : World) :
    Calls Tryz.prog 262 #[.int .i64 4] w fun e w' => e = .returned (.agg #[.int .i64 9999, .int .i64 0, .func (.func 279) #[] #[], .func (.func 278) #[] #[]]) ∧ Below w.heap.size w w' := by
 go_enter Tryz.func262, Tryz.ntmps262;go_upto_region 1 with fail
 iterate 23 go_step
 refine wp_store_row 300 _ _ rfl (w.heap.size + 1) _ (by rfl) (by rfl) 300 _ (zEv _ _ _) (by kernel_rfl) (by rfl) (by kernel_rfl) ?_;rw [zDz];go_wp2;refine bodyPost_ret (v := .agg #[.int .i64 9999, .int .i64 0, .func (.func 279) #[] #[], .func (.func 278) #[] #[]]) (by simp [results, Tryz.results262, go_sem]) rfl ⟨rfl, ?_⟩;repeat first
  | exact Below.refl _ _
  | refine Below.setCell ?_ (by simp <;> omega) _
  | refine Below.alloc ?_ (by simp <;> omega) _
  | refine Below.drew ?_
theorem deedOf5 (w : World) :
    Calls Tryz.prog 262 #[.int .i64 5] w fun e w' => e = .returned (.agg #[.int .i64 9999, .int .i64 9999, .func (.func 282) #[] #[], .func (.func 278) #[] #[]]) ∧ Below w.heap.size w w' := by
 go_enter Tryz.func262, Tryz.ntmps262;go_upto_region 1 with fail
 iterate 23 go_step
 refine wp_store_row 300 _ _ rfl (w.heap.size + 1) _ (by rfl) (by rfl) 300 _ (zEv _ _ _) (by kernel_rfl) (by rfl) (by kernel_rfl) ?_;rw [zDz];go_wp2;refine bodyPost_ret (v := .agg #[.int .i64 9999, .int .i64 9999, .func (.func 282) #[] #[], .func (.func 278) #[] #[]]) (by simp [results, Tryz.results262, go_sem]) rfl ⟨rfl, ?_⟩;repeat first
  | exact Below.refl _ _
  | refine Below.setCell ?_ (by simp <;> omega) _
  | refine Below.alloc ?_ (by simp <;> omega) _
  | refine Below.drew ?_
theorem zFx (p q : Int) (f g : Value) (k a x y : Int) (w : World) :
    Calls Tryz.prog 263 #[.agg #[.int .i64 p, .int .i64 q, f, g], .agg #[.int .i64 k, .int .i64 a, .int .i64 x, .int .i64 y]] w fun e b => e = .returned (.bool (zA8 x 0 p && zA8 y 0 q)) ∧ Below w.heap.size w b := by
 cases h : zA8 x 0 p
 all_goals
  go_enter Tryz.func263, Tryz.ntmps263;go_wp2_with (go_at_call 76; refine (zAw _ _ _ _).mono ?_; rintro e b ⟨rfl, rfl⟩)
  go_ret
  refine ⟨rfl, ?_⟩;exact (Below.alloc (Below.alloc (Below.refl _ _) (Nat.le_refl _) _) (by simp) _)
theorem zEw (k a x y : Int) (w : World) :
    Calls Tryz.prog 232 #[.agg #[.int .i64 k, .int .i64 a, .int .i64 x, .int .i64 y]] w fun e w' => e = .returned (.bool (opB k a x y)) ∧ Below w.heap.size w w' := by
 have B := (Below.refl w.heap.size w).alloc (Nat.le_refl _);cases j : zA8 k 1 5
 ·have H : Hid (opB k a x y = false) := by unfold Hid opB; simp [j]
  go_enter Tryz.func232, Tryz.ntmps232;go_wp2;go_quiet (first | (go_at_call 76; exact Calls.quiet_of_same (zAw _ _ _ _)))
  go_wp2;go_ret
  exact ⟨zAl H.out.symm, zOw (B _)⟩
 ·cases l : zA8 a 0 31
  ·have H : Hid (opB k a x y = false) := by unfold Hid opB; simp [l]
   go_enter Tryz.func232, Tryz.ntmps232;go_wp2;go_quiet (first | (go_at_call 76; exact Calls.quiet_of_same (zAw _ _ _ _)))
   go_wp2;go_ret
   exact ⟨zAl H.out.symm, zOw (B _)⟩
  ·rcases opKind j with rfl | rfl | rfl | rfl | rfl
   ·have H : Hid (opB 1 a x y = (zA8 x 0 0 && zA8 y 0 0)) := by unfold Hid opB; rw [j, l]; rfl
    have R := heap_alloc_new w (.cells #[.int .i64 1, .int .i64 a, .int .i64 x, .int .i64 y] 121);replace B := B (.cells #[.int .i64 1, .int .i64 a, .int .i64 x, .int .i64 y] 121);go_enter Tryz.func232, Tryz.ntmps232;go_wp2;generalize w.alloc (.cells #[.int .i64 1, .int .i64 a, .int .i64 x, .int .i64 y] 121) = W at R B ⊢;obtain ⟨f, g, c, d⟩ := zJ0 R;clear R;refine zAz (fun wx => Below W.heap.size W wx) (by kernel_rfl) (by kernel_rfl) ((Below.refl _ W).drew) ?_;intro b
    repeat (quiet_step (first
     | (go_at_call 76; exact zAY (zAw _ _ _ _))
     | (go_at_call 262; exact zAj (deedOf1 _) (fun w' hc bb => zAa hc bb))
     | (go_at_call 263; exact zAj (zFx _ _ _ _ _ _ _ _ _) (fun w' hc bb => zAa hc bb))))
    refine wpQuiet_nil ?_;intro wx i;clear f g c d b;go_wp2;go_ret
    exact ⟨zAl H.out.symm, zAa B i⟩
   ·have H : Hid (opB 2 a x y = (zA8 x 0 9999 && zA8 y 0 0)) := by unfold Hid opB; rw [j, l]; rfl
    have R := heap_alloc_new w (.cells #[.int .i64 2, .int .i64 a, .int .i64 x, .int .i64 y] 121);replace B := B (.cells #[.int .i64 2, .int .i64 a, .int .i64 x, .int .i64 y] 121);go_enter Tryz.func232, Tryz.ntmps232;go_wp2;generalize w.alloc (.cells #[.int .i64 2, .int .i64 a, .int .i64 x, .int .i64 y] 121) = W at R B ⊢;obtain ⟨f, g, c, d⟩ := zJ0 R;clear R;refine zAz (fun wx => Below W.heap.size W wx) (by kernel_rfl) (by kernel_rfl) ((Below.refl _ W).drew) ?_;intro b
    repeat (quiet_step (first
     | (go_at_call 76; exact zAY (zAw _ _ _ _))
     | (go_at_call 262; exact zAj (deedOf2 _) (fun w' hc bb => zAa hc bb))
     | (go_at_call 263; exact zAj (zFx _ _ _ _ _ _ _ _ _) (fun w' hc bb => zAa hc bb))))
    refine wpQuiet_nil ?_;intro wx i;clear f g c d b;go_wp2;go_ret
    exact ⟨zAl H.out.symm, zAa B i⟩
   ·have H : Hid (opB 3 a x y = (zA8 x 0 9999 && zA8 y 0 0)) := by unfold Hid opB; rw [j, l]; rfl
    have R := heap_alloc_new w (.cells #[.int .i64 3, .int .i64 a, .int .i64 x, .int .i64 y] 121);replace B := B (.cells #[.int .i64 3, .int .i64 a, .int .i64 x, .int .i64 y] 121);go_enter Tryz.func232, Tryz.ntmps232;go_wp2;generalize w.alloc (.cells #[.int .i64 3, .int .i64 a, .int .i64 x, .int .i64 y] 121) = W at R B ⊢;obtain ⟨f, g, c, d⟩ := zJ0 R;clear R;refine zAz (fun wx => Below W.heap.size W wx) (by kernel_rfl) (by kernel_rfl) ((Below.refl _ W).drew) ?_;intro b
    repeat (quiet_step (first
     | (go_at_call 76; exact zAY (zAw _ _ _ _))
     | (go_at_call 262; exact zAj (deedOf3 _) (fun w' hc bb => zAa hc bb))
     | (go_at_call 263; exact zAj (zFx _ _ _ _ _ _ _ _ _) (fun w' hc bb => zAa hc bb))))
    refine wpQuiet_nil ?_;intro wx i;clear f g c d b;go_wp2;go_ret
    exact ⟨zAl H.out.symm, zAa B i⟩
   ·have H : Hid (opB 4 a x y = (zA8 x 0 9999 && zA8 y 0 0)) := by unfold Hid opB; rw [j, l]; rfl
    have R := heap_alloc_new w (.cells #[.int .i64 4, .int .i64 a, .int .i64 x, .int .i64 y] 121);replace B := B (.cells #[.int .i64 4, .int .i64 a, .int .i64 x, .int .i64 y] 121);go_enter Tryz.func232, Tryz.ntmps232;go_wp2;generalize w.alloc (.cells #[.int .i64 4, .int .i64 a, .int .i64 x, .int .i64 y] 121) = W at R B ⊢;obtain ⟨f, g, c, d⟩ := zJ0 R;clear R;refine zAz (fun wx => Below W.heap.size W wx) (by kernel_rfl) (by kernel_rfl) ((Below.refl _ W).drew) ?_;intro b
    repeat (quiet_step (first
     | (go_at_call 76; exact zAY (zAw _ _ _ _))
     | (go_at_call 262; exact zAj (deedOf4 _) (fun w' hc bb => zAa hc bb))
     | (go_at_call 263; exact zAj (zFx _ _ _ _ _ _ _ _ _) (fun w' hc bb => zAa hc bb))))
    refine wpQuiet_nil ?_;intro wx i;clear f g c d b;go_wp2;go_ret
    exact ⟨zAl H.out.symm, zAa B i⟩
   ·have H : Hid (opB 5 a x y = (zA8 x 0 9999 && zA8 y 0 9999)) := by unfold Hid opB; rw [j, l]; rfl
    have R := heap_alloc_new w (.cells #[.int .i64 5, .int .i64 a, .int .i64 x, .int .i64 y] 121);replace B := B (.cells #[.int .i64 5, .int .i64 a, .int .i64 x, .int .i64 y] 121);go_enter Tryz.func232, Tryz.ntmps232;go_wp2;generalize w.alloc (.cells #[.int .i64 5, .int .i64 a, .int .i64 x, .int .i64 y] 121) = W at R B ⊢;obtain ⟨f, g, c, d⟩ := zJ0 R;clear R;refine zAz (fun wx => Below W.heap.size W wx) (by kernel_rfl) (by kernel_rfl) ((Below.refl _ W).drew) ?_;intro b
    repeat (quiet_step (first
     | (go_at_call 76; exact zAY (zAw _ _ _ _))
     | (go_at_call 262; exact zAj (deedOf5 _) (fun w' hc bb => zAa hc bb))
     | (go_at_call 263; exact zAj (zFx _ _ _ _ _ _ _ _ _) (fun w' hc bb => zAa hc bb))))
    refine wpQuiet_nil ?_;intro wx i;clear f g c d b;go_wp2;go_ret
    exact ⟨zAl H.out.symm, zAa B i⟩
theorem zBH (k a x y : Int) (w : World) :
    Calls Tryz.prog 147 #[.agg #[.int .i64 k, .int .i64 a, .int .i64 x, .int .i64 y]] w fun e b => e = .returned (.bool (opB k a x y)) ∧ Below w.heap.size w b := by
 have B := (Below.refl w.heap.size w).alloc (Nat.le_refl _);cases f : zA8 k 1 5 <;> cases g : zA8 a 0 31 <;> cases c : okW x <;> cases d : okW y
 case true.true.true.true =>
  rcases opKind f with rfl | rfl | rfl | rfl | rfl
  ·have H : Hid (opB 1 a x y = (x == 0 && y == 0)) := by
     unfold Hid opB zEX zEY;unfold okW zA8 at c d;rw [f, g];unfold zA8;rw [Bool.eq_iff_iff];simp at c d ⊢
     omega
   by_cases j : x = 0 <;> by_cases i : y = 0
   all_goals
    go_enter Tryz.func147, Tryz.ntmps147
    go_wp2_with (first
     | (go_at_call 98; refine (zAo _ _ _ _).mono ?_; rintro e b ⟨rfl, rfl⟩)
     | (go_at_call 199; refine (zCQ _ _).mono ?_; rintro e b ⟨rfl, rfl⟩))
    go_ret
    exact ⟨zAl (H.out.trans (by simp [j, i])).symm, B _⟩
  ·have H : Hid (opB 2 a x y = (y == 0)) := by
     unfold Hid opB zEX zEY;unfold okW zA8 at c d;rw [f, g];unfold zA8;rw [Bool.eq_iff_iff];simp at c d ⊢
     omega
   by_cases i : y = 0
   all_goals
    go_enter Tryz.func147, Tryz.ntmps147
    go_wp2_with (first
     | (go_at_call 98; refine (zAo _ _ _ _).mono ?_; rintro e b ⟨rfl, rfl⟩)
     | (go_at_call 199; refine (zCQ _ _).mono ?_; rintro e b ⟨rfl, rfl⟩))
    go_ret
    exact ⟨zAl (H.out.trans (by simp [i])).symm, B _⟩
  ·have H : Hid (opB 3 a x y = (y == 0)) := by
     unfold Hid opB zEX zEY;unfold okW zA8 at c d;rw [f, g];unfold zA8;rw [Bool.eq_iff_iff];simp at c d ⊢
     omega
   by_cases i : y = 0
   all_goals
    go_enter Tryz.func147, Tryz.ntmps147
    go_wp2_with (first
     | (go_at_call 98; refine (zAo _ _ _ _).mono ?_; rintro e b ⟨rfl, rfl⟩)
     | (go_at_call 199; refine (zCQ _ _).mono ?_; rintro e b ⟨rfl, rfl⟩))
    go_ret
    exact ⟨zAl (H.out.trans (by simp [i])).symm, B _⟩
  ·have H : Hid (opB 4 a x y = (y == 0)) := by
     unfold Hid opB zEX zEY;unfold okW zA8 at c d;rw [f, g];unfold zA8;rw [Bool.eq_iff_iff];simp at c d ⊢
     omega
   by_cases i : y = 0
   all_goals
    go_enter Tryz.func147, Tryz.ntmps147
    go_wp2_with (first
     | (go_at_call 98; refine (zAo _ _ _ _).mono ?_; rintro e b ⟨rfl, rfl⟩)
     | (go_at_call 199; refine (zCQ _ _).mono ?_; rintro e b ⟨rfl, rfl⟩))
    go_ret
    exact ⟨zAl (H.out.trans (by simp [i])).symm, B _⟩
  ·have H : Hid (opB 5 a x y = true) := by
     unfold Hid opB zEX zEY;unfold okW zA8 at c d;rw [f, g];unfold zA8;rw [Bool.eq_iff_iff];simp at c d ⊢
     omega
   skip
   all_goals
    go_enter Tryz.func147, Tryz.ntmps147
    go_wp2_with (first
     | (go_at_call 98; refine (zAo _ _ _ _).mono ?_; rintro e b ⟨rfl, rfl⟩)
     | (go_at_call 199; refine (zCQ _ _).mono ?_; rintro e b ⟨rfl, rfl⟩))
    go_ret
    exact ⟨zAl (H.out.trans (by simp [])).symm, B _⟩
 all_goals
  have H : Hid (opB k a x y = false) := by
   unfold Hid opB zEX zEY;unfold okW zA8 at c d;unfold zA8 at f g ⊢;rw [Bool.eq_iff_iff];simp at f g c d ⊢
   intros
   try split
   all_goals omega
  go_enter Tryz.func147, Tryz.ntmps147
  go_wp2_with (first
        | (go_at_call 98; refine (zAo _ _ _ _).mono ?_; rintro e b ⟨rfl, rfl⟩)
        | (go_at_call 199; refine (zCQ _ _).mono ?_; rintro e b ⟨rfl, rfl⟩))
  go_ret
  exact ⟨zAl H.out.symm, B _⟩
set_option linter.unusedVariables false
end Go.Proofs.YtcocbafhcpdheaaGreatDoor
