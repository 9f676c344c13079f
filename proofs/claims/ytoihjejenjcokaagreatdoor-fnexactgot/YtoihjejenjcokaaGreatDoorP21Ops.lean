import Derived.Test.YtoihjejenjcokaaGreatDoorP00Box
import Derived.Test.YtoihjejenjcokaaGreatDoorP09Lines6
import Derived.Test.YtoihjejenjcokaaGreatDoorP03OpensBase
import Derived.Below
import Derived.Laws.EntriesVeiled
import Derived.Deep.QuietTactic
import Derived.Deep.Cut
import Derived.Deep.WholeRow
import Derived.BigQuiet
import Derived.Test.YtoihjejenjcokaaGreatDoorP02Nums
import Derived.WalkSmall
import Derived.Test.YtoihjejenjcokaaGreatDoorP19LetterOk
import Derived.Test.YtoihjejenjcokaaGreatDoorP20CoreU
import Derived.Test.YtoihjejenjcokaaGreatDoorP11OkLink
import Derived.Test.YtoihjejenjcokaaGreatDoorP12Finds
namespace Go.Proofs.YtoihjejenjcokaaGreatDoor
set_option maxHeartbeats 8000000
set_option maxRecDepth 20000
open Go.ChangeShapes Go.WideShapes Go.ChangeAt Go.RowKit
def zDV (k : Int) : Int := if k = 1 then 0 else 9999
def zEu (k : Int) : Int := if k = 5 then 9999 else 0
def opB (k a x y : Int) : Bool := zAQ k 1 5 && (zAQ a 0 31 && (zAQ x 0 (zDV k) && zAQ y 0 (zEu k)))
def zC0 (k x y z : Int) : Int := if k = 1 then z else if k = 2 then x else if k = 3 then (z + x) % 10000 else if k = 4 then x else if z = x then y else z
def zCt (k z : Int) : Int := if k = 2 then 0 else z
theorem zDm (w : World) (o : Obj) (c c' : Array Value) (t : TypeId) : ((w.alloc o).alloc (.cells c t)).setRow (w.heap.size + 1) c' = (w.alloc o).alloc (.cells c' t) := by
 have := World.setRow_alloc_new (w.alloc o) c c' t
 rwa [show (w.alloc o).heap.size = w.heap.size + 1 by simp] at this
theorem zEv (w : World) (o o2 : Obj) : ((w.alloc o).alloc o2).heap[w.heap.size + 1]? = some o2 := by
 have := heap_alloc_last (w.alloc o) o2
 rwa [show (w.alloc o).heap.size = w.heap.size + 1 by simp] at this
theorem zDn {W : World} {g : Nat} {v0 v1 v2 v3 : Value} {t : TypeId} (R : W.heap[g]? = some (.cells #[v0, v1, v2, v3] t (0, 0))) :
    (∀ n : Cls (fun wx => Below W.heap.size W wx), n.w.cell? ⟨g, 0, none⟩ = some v0) ∧ (∀ n : Cls (fun wx => Below W.heap.size W wx), n.w.cell? ⟨g, 1, none⟩ = some v1) ∧
     (∀ n : Cls (fun wx => Below W.heap.size W wx), n.w.cell? ⟨g, 2, none⟩ = some v2) ∧ (∀ n : Cls (fun wx => Below W.heap.size W wx), n.w.cell? ⟨g, 3, none⟩ = some v3) := by
 refine ⟨fun n => ?_, fun n => ?_, fun n => ?_, fun n => ?_⟩
 ·rw [cell_of_row n.w g 0 _ t (0, 0) (zAa n.h R)]; rfl
 ·rw [cell_of_row n.w g 1 _ t (0, 0) (zAa n.h R)]; rfl
 ·rw [cell_of_row n.w g 2 _ t (0, 0) (zAa n.h R)]; rfl
 ·rw [cell_of_row n.w g 3 _ t (0, 0) (zAa n.h R)]; rfl
theorem zFt {W : World} {g : Nat} {v0 v1 v2 v3 : Value} {t : TypeId} (R : W.heap[g]? = some (.cells #[v0, v1, v2, v3] t (0, 0))) :
    W.cell? ⟨g, 0, none⟩ = some v0 ∧ W.cell? ⟨g, 1, none⟩ = some v1 ∧ W.cell? ⟨g, 2, none⟩ = some v2 ∧ W.cell? ⟨g, 3, none⟩ = some v3 := by
 refine ⟨?_, ?_, ?_, ?_⟩
 ·rw [cell_of_row W g 0 _ t (0, 0) R]; rfl
 ·rw [cell_of_row W g 1 _ t (0, 0) R]; rfl
 ·rw [cell_of_row W g 2 _ t (0, 0) R]; rfl
 ·rw [cell_of_row W g 3 _ t (0, 0) R]; rfl
theorem zNo {w w' : World} {n : Nat} (h : Below n w w') {k : Nat} : Below n w (w'.drewN k) := ⟨h.os, h.tape, h.output, h.size, h.block⟩
theorem zLm {k : Int} (h : zAQ k 1 5 = true) : k = 1 ∨ k = 2 ∨ k = 3 ∨ k = 4 ∨ k = 5 := by simp [zAQ] at h; omega
theorem zI1 {w w1 : World} {cs : Array Value} {t : TypeId} (h : Below (w.alloc (.cells cs t)).heap.size (w.alloc (.cells cs t)) w1) (j : Nat) : w1.cell? ⟨w.heap.size, j, none⟩ = cs[j]? := by
 rw [h.cell (by simp), cell_of_row (w.alloc (.cells cs t)) w.heap.size j cs t (0, 0) (heap_alloc_new w _)]
theorem op_box {w w1 : World} {v0 v1 v2 v3 : Value} {t : TypeId} (h : Below (w.alloc (.cells #[v0, v1, v2, v3] t)).heap.size (w.alloc (.cells #[v0, v1, v2, v3] t)) w1) :
    w1.cell? ⟨w.heap.size, 0, none⟩ = some v0 ∧ w1.cell? ⟨w.heap.size, 1, none⟩ = some v1 ∧ w1.cell? ⟨w.heap.size, 2, none⟩ = some v2 ∧ w1.cell? ⟨w.heap.size, 3, none⟩ = some v3 :=
 ⟨zI1 h 0, zI1 h 1, zI1 h 2, zI1 h 3⟩
theorem zNp (w : World) :
    Calls Tryz.prog 116 #[.int .i64 1] w fun e w' => e = .returned (.agg #[.int .i64 0, .int .i64 0, .func (.func 140) #[] #[], .func (.func 141) #[] #[]]) ∧ Below w.heap.size w w' := by
 go_enter Tryz.func116, Tryz.ntmps116
 go_upto_region 1 with fail
 iterate 23 go_step
 refine wp_store_row 165 _ _ rfl (w.heap.size + 1) _ (by rfl) (by rfl) 165 _ (zEv _ _ _) (by kernel_rfl) (by rfl) (by kernel_rfl) ?_
 rw [zDm]
 go_wp2
 refine bodyPost_ret (v := .agg #[.int .i64 0, .int .i64 0, .func (.func 140) #[] #[], .func (.func 141) #[] #[]]) (by simp [results, Tryz.results116, go_sem]) rfl ⟨rfl, ?_⟩
 repeat first
  | exact Below.refl _ _
  | refine Below.setCell ?_ (by simp <;> omega) _
  | refine Below.alloc ?_ (by simp <;> omega) _
  | refine Below.drew ?_
theorem zNq (w : World) :
    Calls Tryz.prog 116 #[.int .i64 2] w fun e w' => e = .returned (.agg #[.int .i64 9999, .int .i64 0, .func (.func 142) #[] #[], .func (.func 143) #[] #[]]) ∧ Below w.heap.size w w' := by
 go_enter Tryz.func116, Tryz.ntmps116
 go_upto_region 1 with fail
 iterate 23 go_step
 refine wp_store_row 165 _ _ rfl (w.heap.size + 1) _ (by rfl) (by rfl) 165 _ (zEv _ _ _) (by kernel_rfl) (by rfl) (by kernel_rfl) ?_
 rw [zDm]
 go_wp2
 refine bodyPost_ret (v := .agg #[.int .i64 9999, .int .i64 0, .func (.func 142) #[] #[], .func (.func 143) #[] #[]]) (by simp [results, Tryz.results116, go_sem]) rfl ⟨rfl, ?_⟩
 repeat first
  | exact Below.refl _ _
  | refine Below.setCell ?_ (by simp <;> omega) _
  | refine Below.alloc ?_ (by simp <;> omega) _
  | refine Below.drew ?_
theorem zNr (w : World) :
    Calls Tryz.prog 116 #[.int .i64 3] w fun e w' => e = .returned (.agg #[.int .i64 9999, .int .i64 0, .func (.func 144) #[] #[], .func (.func 141) #[] #[]]) ∧ Below w.heap.size w w' := by
 go_enter Tryz.func116, Tryz.ntmps116
 go_upto_region 1 with fail
 iterate 23 go_step
 refine wp_store_row 165 _ _ rfl (w.heap.size + 1) _ (by rfl) (by rfl) 165 _ (zEv _ _ _) (by kernel_rfl) (by rfl) (by kernel_rfl) ?_
 rw [zDm]
 go_wp2
 refine bodyPost_ret (v := .agg #[.int .i64 9999, .int .i64 0, .func (.func 144) #[] #[], .func (.func 141) #[] #[]]) (by simp [results, Tryz.results116, go_sem]) rfl ⟨rfl, ?_⟩
 repeat first
  | exact Below.refl _ _
  | refine Below.setCell ?_ (by simp <;> omega) _
  | refine Below.alloc ?_ (by simp <;> omega) _
  | refine Below.drew ?_
theorem zNs (w : World) :
    Calls Tryz.prog 116 #[.int .i64 4] w fun e w' => e = .returned (.agg #[.int .i64 9999, .int .i64 0, .func (.func 142) #[] #[], .func (.func 141) #[] #[]]) ∧ Below w.heap.size w w' := by
 go_enter Tryz.func116, Tryz.ntmps116
 go_upto_region 1 with fail
 iterate 23 go_step
 refine wp_store_row 165 _ _ rfl (w.heap.size + 1) _ (by rfl) (by rfl) 165 _ (zEv _ _ _) (by kernel_rfl) (by rfl) (by kernel_rfl) ?_
 rw [zDm]
 go_wp2
 refine bodyPost_ret (v := .agg #[.int .i64 9999, .int .i64 0, .func (.func 142) #[] #[], .func (.func 141) #[] #[]]) (by simp [results, Tryz.results116, go_sem]) rfl ⟨rfl, ?_⟩
 repeat first
  | exact Below.refl _ _
  | refine Below.setCell ?_ (by simp <;> omega) _
  | refine Below.alloc ?_ (by simp <;> omega) _
  | refine Below.drew ?_
theorem zNt (w : World) :
    Calls Tryz.prog 116 #[.int .i64 5] w fun e w' => e = .returned (.agg #[.int .i64 9999, .int .i64 9999, .func (.func 145) #[] #[], .func (.func 141) #[] #[]]) ∧ Below w.heap.size w w' := by
 go_enter Tryz.func116, Tryz.ntmps116
 go_upto_region 1 with fail
 iterate 23 go_step
 refine wp_store_row 165 _ _ rfl (w.heap.size + 1) _ (by rfl) (by rfl) 165 _ (zEv _ _ _) (by kernel_rfl) (by rfl) (by kernel_rfl) ?_
 rw [zDm]
 go_wp2
 refine bodyPost_ret (v := .agg #[.int .i64 9999, .int .i64 9999, .func (.func 145) #[] #[], .func (.func 141) #[] #[]]) (by simp [results, Tryz.results116, go_sem]) rfl ⟨rfl, ?_⟩
 repeat first
  | exact Below.refl _ _
  | refine Below.setCell ?_ (by simp <;> omega) _
  | refine Below.alloc ?_ (by simp <;> omega) _
  | refine Below.drew ?_
theorem zNu (k a x y z : Int) (w : World) :
    Calls Tryz.prog 140 #[.agg #[.int .i64 k, .int .i64 a, .int .i64 x, .int .i64 y], .int .i64 z] w fun e w' => e = .returned (.int .i64 z) ∧ Below w.heap.size w w' := by
 have B := (Below.refl w.heap.size w).alloc (Nat.le_refl _)
 go_enter Tryz.func140, Tryz.ntmps140
 go_wp2
 go_ret
 exact ⟨rfl, B _⟩
theorem zFU (k a x y z : Int) (w : World) :
    Calls Tryz.prog 142 #[.agg #[.int .i64 k, .int .i64 a, .int .i64 x, .int .i64 y], .int .i64 z] w fun e w' => e = .returned (.int .i64 x) ∧ Below w.heap.size w w' := by
 have B := (Below.refl w.heap.size w).alloc (Nat.le_refl _)
 go_enter Tryz.func142, Tryz.ntmps142
 go_wp2
 go_ret
 exact ⟨rfl, B _⟩
theorem zNv (k a x y z : Int) (w : World) (hx : 0 ≤ x) (hx1 : x ≤ 9999) (hz : 0 ≤ z) (hz1 : z ≤ 9999) :
    Calls Tryz.prog 144 #[.agg #[.int .i64 k, .int .i64 a, .int .i64 x, .int .i64 y], .int .i64 z] w fun e w' => e = .returned (.int .i64 ((z + x) % 10000)) ∧ Below w.heap.size w w' := by
 have B := (Below.refl w.heap.size w).alloc (Nat.le_refl _)
 go_enter Tryz.func144, Tryz.ntmps144
 go_wp2
 go_ret
 exact ⟨zAW (by first | rfl | (rw [Int.tmod_eq_emod_of_nonneg (by omega)]) | (congr 1; omega)), B _⟩
theorem zFG (k a x y z : Int) (w : World) :
    Calls Tryz.prog 145 #[.agg #[.int .i64 k, .int .i64 a, .int .i64 x, .int .i64 y], .int .i64 z] w fun e w' => e = .returned (.int .i64 (if z = x then y else z)) ∧ Below w.heap.size w w' := by
 have B := (Below.refl w.heap.size w).alloc (Nat.le_refl _)
 by_cases h : z = x
 ·have H : Hid ((if z = x then y else z) = y) := by unfold Hid; simp [h]
  subst h
  generalize (if z = z then y else z) = q at H ⊢
  go_enter Tryz.func145, Tryz.ntmps145
  go_wp2
  go_ret
  exact ⟨zAW H.out.symm, B _⟩
 ·have H : Hid ((if z = x then y else z) = z) := by unfold Hid; simp [h]
  generalize (if z = x then y else z) = q at H ⊢
  go_enter Tryz.func145, Tryz.ntmps145
  go_wp2
  go_ret
  exact ⟨zAW H.out.symm, B _⟩
theorem zCX (z : Int) (w : World) :
    Calls Tryz.prog 141 #[.int .i64 z] w fun e w' => e = .returned (.int .i64 z) ∧ w' = w := by
 go_enter Tryz.func141, Tryz.ntmps141
 go_wp2
 go_ret
 exact ⟨rfl, rfl⟩
theorem zKz (z : Int) (w : World) :
    Calls Tryz.prog 143 #[.int .i64 z] w fun e w' => e = .returned (.int .i64 0) ∧ w' = w := by
 go_enter Tryz.func143, Tryz.ntmps143
 go_wp2
 go_ret
 exact ⟨rfl, rfl⟩
theorem zFu (p q : Int) (f g : Value) (k a x y : Int) (w : World) :
    Calls Tryz.prog 117 #[.agg #[.int .i64 p, .int .i64 q, f, g], .agg #[.int .i64 k, .int .i64 a, .int .i64 x, .int .i64 y]] w fun e w' => e = .returned (.bool (zAQ x 0 p && zAQ y 0 q)) ∧ Below w.heap.size w w' := by
 cases h : zAQ x 0 p
 all_goals
  go_enter Tryz.func117, Tryz.ntmps117
  go_wp2_with (go_at_call 68; refine (zBe _ _ _ _).mono ?_; rintro e w' ⟨rfl, rfl⟩)
  go_ret
  refine ⟨rfl, ?_⟩
  exact (Below.alloc (Below.alloc (Below.refl _ _) (Nat.le_refl _) _) (by simp) _)
theorem zBS (k a x y : Int) (w : World) :
    Calls Tryz.prog 93 #[.agg #[.int .i64 k, .int .i64 a, .int .i64 x, .int .i64 y]] w fun e w' => e = .returned (.bool (opB k a x y)) ∧ Below w.heap.size w w' := by
 have B := (Below.refl w.heap.size w).alloc (Nat.le_refl _)
 cases h1 : zAQ k 1 5
 ·have H : Hid (opB k a x y = false) := by unfold Hid opB; simp [h1]
  go_enter Tryz.func93, Tryz.ntmps93
  go_wp2
  go_quiet (first | (go_at_call 68; exact Calls.quiet_of_same (zBe _ _ _ _)))
  go_wp2
  go_ret
  exact ⟨zA2 H.out.symm, zNo (B _)⟩
 ·cases h2 : zAQ a 0 31
  ·have H : Hid (opB k a x y = false) := by unfold Hid opB; simp [h2]
   go_enter Tryz.func93, Tryz.ntmps93
   go_wp2
   go_quiet (first | (go_at_call 68; exact Calls.quiet_of_same (zBe _ _ _ _)))
   go_wp2
   go_ret
   exact ⟨zA2 H.out.symm, zNo (B _)⟩
  ·rcases zLm h1 with rfl | rfl | rfl | rfl | rfl
   ·have H : Hid (opB 1 a x y = (zAQ x 0 0 && zAQ y 0 0)) := by unfold Hid opB; rw [h1, h2]; rfl
    have R := heap_alloc_new w (.cells #[.int .i64 1, .int .i64 a, .int .i64 x, .int .i64 y] 85)
    replace B := B (.cells #[.int .i64 1, .int .i64 a, .int .i64 x, .int .i64 y] 85)
    go_enter Tryz.func93, Tryz.ntmps93
    go_wp2
    generalize w.alloc (.cells #[.int .i64 1, .int .i64 a, .int .i64 x, .int .i64 y] 85) = W at R B ⊢
    obtain ⟨n0, n1, n2, n3⟩ := zDn R
    clear R
    refine zA8 (fun wx => Below W.heap.size W wx) (by kernel_rfl) (by kernel_rfl) ((Below.refl _ W).drew) ?_
    intro hne
    repeat (quiet_step (first
     | (go_at_call 68; exact zAT (zBe _ _ _ _))
     | (go_at_call 116; exact zAz (zNp _) (fun w' hc bb => zAb hc bb))
     | (go_at_call 117; exact zAz (zFu _ _ _ _ _ _ _ _ _) (fun w' hc bb => zAb hc bb))))
    refine wpQuiet_nil ?_
    intro wx b2
    clear n0 n1 n2 n3 hne
    go_wp2
    go_ret
    exact ⟨zA2 H.out.symm, zAb B b2⟩
   ·have H : Hid (opB 2 a x y = (zAQ x 0 9999 && zAQ y 0 0)) := by unfold Hid opB; rw [h1, h2]; rfl
    have R := heap_alloc_new w (.cells #[.int .i64 2, .int .i64 a, .int .i64 x, .int .i64 y] 85)
    replace B := B (.cells #[.int .i64 2, .int .i64 a, .int .i64 x, .int .i64 y] 85)
    go_enter Tryz.func93, Tryz.ntmps93
    go_wp2
    generalize w.alloc (.cells #[.int .i64 2, .int .i64 a, .int .i64 x, .int .i64 y] 85) = W at R B ⊢
    obtain ⟨n0, n1, n2, n3⟩ := zDn R
    clear R
    refine zA8 (fun wx => Below W.heap.size W wx) (by kernel_rfl) (by kernel_rfl) ((Below.refl _ W).drew) ?_
    intro hne
    repeat (quiet_step (first
     | (go_at_call 68; exact zAT (zBe _ _ _ _))
     | (go_at_call 116; exact zAz (zNq _) (fun w' hc bb => zAb hc bb))
     | (go_at_call 117; exact zAz (zFu _ _ _ _ _ _ _ _ _) (fun w' hc bb => zAb hc bb))))
    refine wpQuiet_nil ?_
    intro wx b2
    clear n0 n1 n2 n3 hne
    go_wp2
    go_ret
    exact ⟨zA2 H.out.symm, zAb B b2⟩
   ·have H : Hid (opB 3 a x y = (zAQ x 0 9999 && zAQ y 0 0)) := by unfold Hid opB; rw [h1, h2]; rfl
    have R := heap_alloc_new w (.cells #[.int .i64 3, .int .i64 a, .int .i64 x, .int .i64 y] 85)
    replace B := B (.cells #[.int .i64 3, .int .i64 a, .int .i64 x, .int .i64 y] 85)
    go_enter Tryz.func93, Tryz.ntmps93
    go_wp2
    generalize w.alloc (.cells #[.int .i64 3, .int .i64 a, .int .i64 x, .int .i64 y] 85) = W at R B ⊢
    obtain ⟨n0, n1, n2, n3⟩ := zDn R
    clear R
    refine zA8 (fun wx => Below W.heap.size W wx) (by kernel_rfl) (by kernel_rfl) ((Below.refl _ W).drew) ?_
    intro hne
    repeat (quiet_step (first
     | (go_at_call 68; exact zAT (zBe _ _ _ _))
     | (go_at_call 116; exact zAz (zNr _) (fun w' hc bb => zAb hc bb))
     | (go_at_call 117; exact zAz (zFu _ _ _ _ _ _ _ _ _) (fun w' hc bb => zAb hc bb))))
    refine wpQuiet_nil ?_
    intro wx b2
    clear n0 n1 n2 n3 hne
    go_wp2
    go_ret
    exact ⟨zA2 H.out.symm, zAb B b2⟩
   ·have H : Hid (opB 4 a x y = (zAQ x 0 9999 && zAQ y 0 0)) := by unfold Hid opB; rw [h1, h2]; rfl
    have R := heap_alloc_new w (.cells #[.int .i64 4, .int .i64 a, .int .i64 x, .int .i64 y] 85)
    replace B := B (.cells #[.int .i64 4, .int .i64 a, .int .i64 x, .int .i64 y] 85)
    go_enter Tryz.func93, Tryz.ntmps93
    go_wp2
    generalize w.alloc (.cells #[.int .i64 4, .int .i64 a, .int .i64 x, .int .i64 y] 85) = W at R B ⊢
    obtain ⟨n0, n1, n2, n3⟩ := zDn R
    clear R
    refine zA8 (fun wx => Below W.heap.size W wx) (by kernel_rfl) (by kernel_rfl) ((Below.refl _ W).drew) ?_
    intro hne
    repeat (quiet_step (first
     | (go_at_call 68; exact zAT (zBe _ _ _ _))
     | (go_at_call 116; exact zAz (zNs _) (fun w' hc bb => zAb hc bb))
     | (go_at_call 117; exact zAz (zFu _ _ _ _ _ _ _ _ _) (fun w' hc bb => zAb hc bb))))
    refine wpQuiet_nil ?_
    intro wx b2
    clear n0 n1 n2 n3 hne
    go_wp2
    go_ret
    exact ⟨zA2 H.out.symm, zAb B b2⟩
   ·have H : Hid (opB 5 a x y = (zAQ x 0 9999 && zAQ y 0 9999)) := by unfold Hid opB; rw [h1, h2]; rfl
    have R := heap_alloc_new w (.cells #[.int .i64 5, .int .i64 a, .int .i64 x, .int .i64 y] 85)
    replace B := B (.cells #[.int .i64 5, .int .i64 a, .int .i64 x, .int .i64 y] 85)
    go_enter Tryz.func93, Tryz.ntmps93
    go_wp2
    generalize w.alloc (.cells #[.int .i64 5, .int .i64 a, .int .i64 x, .int .i64 y] 85) = W at R B ⊢
    obtain ⟨n0, n1, n2, n3⟩ := zDn R
    clear R
    refine zA8 (fun wx => Below W.heap.size W wx) (by kernel_rfl) (by kernel_rfl) ((Below.refl _ W).drew) ?_
    intro hne
    repeat (quiet_step (first
     | (go_at_call 68; exact zAT (zBe _ _ _ _))
     | (go_at_call 116; exact zAz (zNt _) (fun w' hc bb => zAb hc bb))
     | (go_at_call 117; exact zAz (zFu _ _ _ _ _ _ _ _ _) (fun w' hc bb => zAb hc bb))))
    refine wpQuiet_nil ?_
    intro wx b2
    clear n0 n1 n2 n3 hne
    go_wp2
    go_ret
    exact ⟨zA2 H.out.symm, zAb B b2⟩
theorem zHu (k a x y : Int) (w : World) :
    Calls Tryz.prog 131 #[.agg #[.int .i64 k, .int .i64 a, .int .i64 x, .int .i64 y]] w fun e w' => e = .returned (.bool (opB k a x y && k != 1)) ∧ Below w.heap.size w w' := by
 have B := (Below.refl w.heap.size w).alloc (Nat.le_refl _)
 cases h : opB k a x y
 all_goals
  go_enter Tryz.func131, Tryz.ntmps131
  go_wp2_with (go_at_call 93; refine (zBS _ _ _ _ _).mono ?_; rintro e w1 ⟨rfl, b1⟩; obtain ⟨c0, c1, c2, c3⟩ := op_box b1)
  go_ret
  exact ⟨rfl, zAb (B _) b1⟩
theorem zCu (k a x y : Int) (w : World) :
    Calls Tryz.prog 51 #[.agg #[.int .i64 k, .int .i64 a, .int .i64 x, .int .i64 y]] w fun e w' => e = .returned (.bool (opB k a x y)) ∧ Below w.heap.size w w' := by
 have B := (Below.refl w.heap.size w).alloc (Nat.le_refl _)
 cases h1 : zAQ k 1 5 <;> cases h2 : zAQ a 0 31 <;> cases h3 : okW x <;> cases h4 : okW y
 case true.true.true.true =>
  rcases zLm h1 with rfl | rfl | rfl | rfl | rfl
  ·have H : Hid (opB 1 a x y = (x == 0 && y == 0)) := by
     unfold Hid opB zDV zEu
     unfold okW zAQ at h3 h4
     rw [h1, h2]
     unfold zAQ
     rw [Bool.eq_iff_iff]
     simp at h3 h4 ⊢
     omega
   by_cases hx : x = 0 <;> by_cases hy : y = 0
   all_goals
    go_enter Tryz.func51, Tryz.ntmps51
    go_wp2_with (first
     | (go_at_call 23; refine (zBa _ _ _ _).mono ?_; rintro e w' ⟨rfl, rfl⟩)
     | (go_at_call 83; refine (zCL _ _).mono ?_; rintro e w' ⟨rfl, rfl⟩))
    go_ret
    exact ⟨zA2 (H.out.trans (by simp [hx, hy])).symm, B _⟩
  ·have H : Hid (opB 2 a x y = (y == 0)) := by
     unfold Hid opB zDV zEu
     unfold okW zAQ at h3 h4
     rw [h1, h2]
     unfold zAQ
     rw [Bool.eq_iff_iff]
     simp at h3 h4 ⊢
     omega
   by_cases hy : y = 0
   all_goals
    go_enter Tryz.func51, Tryz.ntmps51
    go_wp2_with (first
     | (go_at_call 23; refine (zBa _ _ _ _).mono ?_; rintro e w' ⟨rfl, rfl⟩)
     | (go_at_call 83; refine (zCL _ _).mono ?_; rintro e w' ⟨rfl, rfl⟩))
    go_ret
    exact ⟨zA2 (H.out.trans (by simp [hy])).symm, B _⟩
  ·have H : Hid (opB 3 a x y = (y == 0)) := by
     unfold Hid opB zDV zEu
     unfold okW zAQ at h3 h4
     rw [h1, h2]
     unfold zAQ
     rw [Bool.eq_iff_iff]
     simp at h3 h4 ⊢
     omega
   by_cases hy : y = 0
   all_goals
    go_enter Tryz.func51, Tryz.ntmps51
    go_wp2_with (first
     | (go_at_call 23; refine (zBa _ _ _ _).mono ?_; rintro e w' ⟨rfl, rfl⟩)
     | (go_at_call 83; refine (zCL _ _).mono ?_; rintro e w' ⟨rfl, rfl⟩))
    go_ret
    exact ⟨zA2 (H.out.trans (by simp [hy])).symm, B _⟩
  ·have H : Hid (opB 4 a x y = (y == 0)) := by
     unfold Hid opB zDV zEu
     unfold okW zAQ at h3 h4
     rw [h1, h2]
     unfold zAQ
     rw [Bool.eq_iff_iff]
     simp at h3 h4 ⊢
     omega
   by_cases hy : y = 0
   all_goals
    go_enter Tryz.func51, Tryz.ntmps51
    go_wp2_with (first
     | (go_at_call 23; refine (zBa _ _ _ _).mono ?_; rintro e w' ⟨rfl, rfl⟩)
     | (go_at_call 83; refine (zCL _ _).mono ?_; rintro e w' ⟨rfl, rfl⟩))
    go_ret
    exact ⟨zA2 (H.out.trans (by simp [hy])).symm, B _⟩
  ·have H : Hid (opB 5 a x y = true) := by
     unfold Hid opB zDV zEu
     unfold okW zAQ at h3 h4
     rw [h1, h2]
     unfold zAQ
     rw [Bool.eq_iff_iff]
     simp at h3 h4 ⊢
     omega
   skip
   all_goals
    go_enter Tryz.func51, Tryz.ntmps51
    go_wp2_with (first
     | (go_at_call 23; refine (zBa _ _ _ _).mono ?_; rintro e w' ⟨rfl, rfl⟩)
     | (go_at_call 83; refine (zCL _ _).mono ?_; rintro e w' ⟨rfl, rfl⟩))
    go_ret
    exact ⟨zA2 (H.out.trans (by simp [])).symm, B _⟩
 all_goals
  have H : Hid (opB k a x y = false) := by
   unfold Hid opB zDV zEu
   unfold okW zAQ at h3 h4
   unfold zAQ at h1 h2 ⊢
   rw [Bool.eq_iff_iff]
   simp at h1 h2 h3 h4 ⊢
   intros
   try split
   all_goals omega
  go_enter Tryz.func51, Tryz.ntmps51
  go_wp2_with (first
        | (go_at_call 23; refine (zBa _ _ _ _).mono ?_; rintro e w' ⟨rfl, rfl⟩)
        | (go_at_call 83; refine (zCL _ _).mono ?_; rintro e w' ⟨rfl, rfl⟩))
  go_ret
  exact ⟨zA2 H.out.symm, B _⟩
theorem zHv (k a x y : Int) (w : World) :
    Calls Tryz.prog 85 #[.agg #[.int .i64 k, .int .i64 a, .int .i64 x, .int .i64 y]] w fun e w' => e = .returned (.bool (opB k a x y && k != 1)) ∧ Below w.heap.size w w' := by
 have B := (Below.refl w.heap.size w).alloc (Nat.le_refl _)
 cases h : opB k a x y
 all_goals
  go_enter Tryz.func85, Tryz.ntmps85
  go_wp2_with (go_at_call 51; refine (zCu _ _ _ _ _).mono ?_; rintro e w1 ⟨rfl, b1⟩; obtain ⟨c0, c1, c2, c3⟩ := op_box b1)
  go_ret
  exact ⟨rfl, zAb (B _) b1⟩
set_option linter.unusedVariables false
theorem zB3 {w : World} {g : Nat} {x0 x1 x2 x3 : Value} {t : TypeId} (h : w.heap[g]? = some (.cells #[x0, x1, x2, x3] t (0, 0))) :
    w.cell? ⟨g, 0, none⟩ = some x0 ∧ w.cell? ⟨g, 1, none⟩ = some x1 ∧ w.cell? ⟨g, 2, none⟩ = some x2 ∧ w.cell? ⟨g, 3, none⟩ = some x3 :=
 ⟨by rw [cell_of_row w g 0 _ t (0, 0) h]; rfl, by rw [cell_of_row w g 1 _ t (0, 0) h]; rfl, by rw [cell_of_row w g 2 _ t (0, 0) h]; rfl, by rw [cell_of_row w g 3 _ t (0, 0) h]; rfl⟩
def zBN (u : OpD) : Bool := opB u.1 u.2.1 u.2.2.1 u.2.2.2
theorem zI2 {α : Type} {p : α → Bool} {xs : List α} {k : Nat} {x : α} (h : (xs.take k).all p = true) (hx : xs[k]? = some x) (hp : p x = true) : (xs.take (k + 1)).all p = true := by
 rw [List.take_add_one, hx, List.all_append, h]
 simp [hp]
theorem zK0 {α : Type} {p : α → Bool} {xs : List α} {k : Nat} {x : α} (hx : xs[k]? = some x) (hp : p x = false) : xs.all p = false := by
 rw [Bool.eq_false_iff]
 intro h
 have := List.all_eq_true.1 h x (List.mem_of_getElem? hx)
 rw [hp] at this
 cases this
def zEf (u : zAU) : Bool := zAQ u.1 0 15 && (decide (u.2.1 = 0) && decide (u.2.2.length = 0))
noncomputable def zJs (x : zAE) : Bool := if x.2.2.2.1 = 1 then (zEf x.2.2.2.2.1 || zBi isL x.2.2.2.2.1) && decide (atC x.1 x.2.2.2.2.1.1 = none) else zB7 x.2.2.2.2.1
noncomputable def zAZ (x : zAE) : Bool := okB isL zAJ x.1 && (decide (x.2.1.length ≤ 30) && (zAQ x.2.2.1 0 x.2.1.length && (decide ((x.2.2.2.2.2.length : Int) = x.2.2.1) && (zAQ x.2.2.2.1 0 2 && (!(decide (x.2.2.2.1 = 2) && decide (x.2.2.1 = (x.2.1.length : Int))) && (x.2.1.all zBN && zJs x))))))
theorem zI3 (o : Option Nat) : decide (zGc o < 0) = decide (o = none) := by
 cases o with
 | none => rfl
 | some i => exact (decide_eq_false (show ¬ ((i : Int) < 0) by omega)).trans (decide_eq_false (by simp)).symm
theorem zGq {w : World} {a : Option Addr} {xs : List (List zAU)} (h : zBh zBl w a xs) : ∀ row ∈ xs, row.length ≤ maxLen := by
 intro row hr
 obtain ⟨j, hj⟩ := List.getElem?_of_mem hr
 obtain ⟨b, off, cs, rfl, ⟨a', cap', rfl, l1, l2, -⟩, -⟩ := zBG h hj
 exact Nat.le_trans l1 l2
theorem zJt (cs : List Value) (x : zAE) (w : World) (h : zAn.rd w cs x) :
    Calls Tryz.prog 22 #[zAM cs] w fun e w' => e = .returned (.bool (zAZ x)) ∧ Below w.heap.size w w' := by
 obtain ⟨v0, v1, v2, v5, v6, v7, v8, rfl, r0, r1, i2, i3, r4, r5⟩ := zCs h
 clear h
 obtain ⟨a0, c0, b0, d0, e0, l1, l2, l3, l4, q0, q1⟩ := zAH r0
 simp only [List.cons.injEq, and_true] at e0
 obtain ⟨rfl, rfl⟩ := e0
 obtain ⟨a1, c1, e1, k1, k2, q2⟩ := r1
 simp only [List.cons.injEq, and_true] at e1
 obtain rfl := e1
 obtain ⟨a4, c4, e4, j1, j2, g1, g2, q4⟩ := zAL r4
 simp only [List.cons.injEq, and_true] at e4
 obtain ⟨rfl, rfl, rfl⟩ := e4
 obtain ⟨a5, c5, e5, m1, m2, q5⟩ := r5
 simp only [List.cons.injEq, and_true] at e5
 obtain rfl := e5
 clear r0 r4
 obtain ⟨c, p, at_, ph, u, t⟩ := x
 simp only at *
 have hp63 : p.length ≤ 9223372036854775807 := Nat.le_trans k1 k2
 have ht63 : t.length ≤ 9223372036854775807 := Nat.le_trans m1 m2
 have hu63 : u.2.2.length ≤ 9223372036854775807 := Nat.le_trans g1 g2
 have KC : Hid (∀ W, Below w.heap.size w W → Calls Tryz.prog 50 #[.agg #[.slice a0 c.1.length c0, .slice b0 c.2.length d0]] W fun e w' => e = .returned (.bool (okB isL zAJ c)) ∧ Below W.heap.size W w') := fun W hb => zGD a0 b0 c c0 d0 W (zAG q0 hb) (zAG q1 hb) (Nat.le_trans l1 l2) (Nat.le_trans l3 l4) (zGq q0)
 have KP : Hid (∀ W, Below w.heap.size w W → zBh opR W a1 p) := fun W hb => zAG q2 hb
 have KL : Hid (∀ W, Calls Tryz.prog 52 #[.agg #[.int .i64 u.1, .int .i64 u.2.1, .slice a4 u.2.2.length c4]] W fun e w' => e = .returned (.bool (zB7 u)) ∧ Below W.heap.size W w') := fun W => by rw [← zHA]; exact zDP _ _ _ _ _ W (Nat.le_trans g1 g2)
 have KF : Hid (∀ W, Below w.heap.size w W → Calls Tryz.prog 53 #[.agg #[.int .i64 u.1, .int .i64 u.2.1, .slice a4 u.2.2.length c4]] W fun e w' => e = .returned (.bool (zBi isL u)) ∧ Below W.heap.size W w') := fun W hb => zE6 u.1 u.2.1 u.2.2 a4 c4 W (zAG q4 hb)
 have KA : Hid (∀ W, okB isL zAJ c = true → Below w.heap.size w W → Calls Tryz.prog 54 #[.agg #[.slice a0 c.1.length c0, .slice b0 c.2.length d0], .int .i64 u.1] W fun e w' => e = .returned (.int .i64 (zGc (atC c u.1))) ∧ Below W.heap.size W w') := fun W hk hb => zFD a0 b0 c c0 d0 u.1 W (zCK.1 hk) (zAG q0 hb)
 clear q0 q1 q2 q4 q5 l1 l2 l3 l4 k1 k2 g1 g2 m1 m2 i2 i3 j1 j2
 change Calls Tryz.prog 22 #[.agg #[.slice a0 c.1.length c0, .slice b0 c.2.length d0, .slice a1 p.length c1, .int .i64 at_, .int .i64 ph, .int .i64 u.1, .int .i64 u.2.1, .slice a4 u.2.2.length c4, .slice a5 t.length c5]] w _
 go_enter Tryz.func22, Tryz.ntmps22
 go_wp2_with fail
 generalize hW0 : w.alloc _ = W0
 have X := boxH hW0
 have B := boxB hW0
 clear hW0
 refine (KC.out _ B).mono ?_
 rintro e w1 ⟨rfl, b1⟩
 replace X := zAa b1 X
 replace B := zAb B b1
 clear b1 KC
 obtain ⟨y0, y1, y2, y3, y4, y5, y6, y7, y8⟩ := zAc X
 have HX : Hid _ := X
 have HB : Hid _ := B
 clear X B
 cases hok : okB isL zAJ c
 ·skip
  have HV : Hid (zAZ (c, p, at_, ph, u, t) = false) := by unfold Hid zAZ; simp [hok]
  clear hok
  go_wp2
  go_ret
  exact ⟨zA2 HV.out.symm, HB.out⟩
 by_cases hn : p.length ≤ 30
 case neg =>
  have hn' : (30 : Int) < (p.length : Int) := by omega
  have HV : Hid (zAZ (c, p, at_, ph, u, t) = false) := by unfold Hid zAZ; simp [hn]
  clear hok hn
  go_wp2
  go_ret
  exact ⟨zA2 HV.out.symm, HB.out⟩
 have hn' : ¬ ((30 : Int) < (p.length : Int)) := by omega
 cases hat : zAQ at_ 0 (p.length : Int)
 ·skip
  have HV : Hid (zAZ (c, p, at_, ph, u, t) = false) := by unfold Hid zAZ; simp [hat]
  clear hok
  go_wp2_with (go_at_call 23; refine (zBa _ _ _ _).mono ?_; rintro e wz ⟨rfl, hz9⟩; rw [hz9]; clear hz9 wz; first | rw [hat] | rw [hph] | rw [hb1])
  go_ret
  exact ⟨zA2 HV.out.symm, HB.out⟩
 by_cases htl : (t.length : Int) = at_
 case neg =>
  have htl' : ((t.length : Int) != at_) = true := by simp [htl]
  have HV : Hid (zAZ (c, p, at_, ph, u, t) = false) := by unfold Hid zAZ; simp [htl]
  clear hok htl
  go_wp2_with (go_at_call 23; refine (zBa _ _ _ _).mono ?_; rintro e wz ⟨rfl, hz9⟩; rw [hz9]; clear hz9 wz; first | rw [hat] | rw [hph] | rw [hb1])
  go_ret
  exact ⟨zA2 HV.out.symm, HB.out⟩
 have htl' : ((t.length : Int) != at_) = false := by simp [htl]
 have HTL : Hid _ := htl
 have HOK : Hid _ := hok
 clear htl hok
 cases hph : zAQ ph 0 2
 ·skip
  have HV : Hid (zAZ (c, p, at_, ph, u, t) = false) := by unfold Hid zAZ; simp [hph]
  clear HTL HOK
  go_wp2_with (go_at_call 23; refine (zBa _ _ _ _).mono ?_; rintro e wz ⟨rfl, hz9⟩; rw [hz9]; clear hz9 wz; first | rw [hat] | rw [hph] | rw [hb1])
  go_ret
  exact ⟨zA2 HV.out.symm, HB.out⟩
 have h3 : ph = 0 ∨ ph = 1 ∨ ph = 2 := by simp [zAQ] at hph; omega
 have HHP : Hid _ := hph
 clear hph
 rcases h3 with rfl | rfl | rfl
 ·skip
  have HR : Hid (zAZ (c, p, at_, 0, u, t) = (p.all zBN && zJs (c, p, at_, 0, u, t))) := by unfold Hid zAZ; simp [HOK.out, hn, hat, HTL.out, HHP.out]
  generalize hA : p.all zBN = A at HR
  have HA : Hid _ := hA
  clear hA
  have hph : zAQ (0 : Int) 0 2 = true := by decide
  go_wp2_with (go_at_call 23; refine (zBa _ _ _ _).mono ?_; rintro e wz ⟨rfl, hz9⟩; rw [hz9]; clear hz9 wz; first | rw [hat] | rw [hph] | rw [hb1])
  clear hph
  clear y0 y1 y2 y3 y4 y5 y6 y7 y8
  go_loopw [4] (fun i wr => ∃ k : Nat, k ≤ p.length ∧ i = .int .i64 k ∧ (p.take k).all zBN = true ∧ Below w1.heap.size w1 wr) (fun i _ => p.length - (intOf i).toNat)
  case atStart => exact ⟨0, Nat.zero_le _, rfl, rfl, Below.refl _ _⟩
  case round =>
   obtain ⟨k, hk, rfl, hall, BB⟩ := hrel
   obtain ⟨y0, y1, y2, y3, y4, y5, y6, y7, y8⟩ := zAc (zAa BB HX.out)
   by_cases hlt : k < p.length
   ·have hlt' : (k : Int) < (p.length : Int) := by omega
    obtain ⟨z, hz⟩ : ∃ z, p[k]? = some z := ⟨_, List.getElem?_eq_getElem hlt⟩
    obtain ⟨b, off, rfl, x0, x1, x2, x3, -⟩ := zEt (KP.out _ (zAb HB.out BB)) hz
    cases hb : zBN z
    ·have HN : Hid (A = false) := by rw [← HA.out]; exact zK0 hz hb
     have HBB : Hid _ := BB
     clear hz hall BB
     go_wp2_with (go_at_call 51; refine (zCu _ _ _ _ _).mono ?_; rintro e w' ⟨rfl, bb⟩; rw [show opB z.1 z.2.1 z.2.2.1 z.2.2.2 = _ from hb])
     go_ret
     exact ⟨zA2 (by rw [HR.out, HN.out]; rfl), zAb (zAb HB.out HBB.out) bb⟩
    ·have HT : Hid ((p.take (k + 1)).all zBN = true) := zI2 hall hz hb
     have HBB : Hid _ := BB
     clear hz hall BB
     go_wp2_with (go_at_call 51; refine (zCu _ _ _ _ _).mono ?_; rintro e w' ⟨rfl, bb⟩; rw [show opB z.1 z.2.1 z.2.2.1 z.2.2.2 = _ from hb])
     go_roundw
     case rel => exact ⟨k + 1, by omega, by go_num, HT.out, zAb HBB.out bb⟩
     case measure => simp [intOf]; omega
   ·have hkl : k = p.length := by omega
    subst hkl
    rw [List.take_length] at hall
    have hA1 : A = true := by rw [← HA.out]; exact hall
    subst hA1
    have HBB : Hid (Below w.heap.size w wr) := zAb HB.out BB
    have HRW : Hid _ := zAa BB HX.out
    clear hall BB hlt hk HA
    have HV : Hid (zAZ (c, p, at_, 0, u, t) = zB7 u) := by unfold Hid; rw [HR.out, Bool.true_and]; unfold zJs; exact if_neg (show ¬ ((0 : Int) = 1) by decide)
    go_wp2_with (go_at_call 52; refine (KL.out _).mono ?_; rintro e w' ⟨rfl, bb⟩)
    go_ret
    exact ⟨zA2 HV.out.symm, zAb HBB.out bb⟩
 ·skip
  have HR : Hid (zAZ (c, p, at_, 1, u, t) = (p.all zBN && zJs (c, p, at_, 1, u, t))) := by unfold Hid zAZ; simp [HOK.out, hn, hat, HTL.out, HHP.out]
  generalize hA : p.all zBN = A at HR
  have HA : Hid _ := hA
  clear hA
  have hph : zAQ (1 : Int) 0 2 = true := by decide
  go_wp2_with (go_at_call 23; refine (zBa _ _ _ _).mono ?_; rintro e wz ⟨rfl, hz9⟩; rw [hz9]; clear hz9 wz; first | rw [hat] | rw [hph] | rw [hb1])
  clear hph
  clear y0 y1 y2 y3 y4 y5 y6 y7 y8
  go_loopw [4] (fun i wr => ∃ k : Nat, k ≤ p.length ∧ i = .int .i64 k ∧ (p.take k).all zBN = true ∧ Below w1.heap.size w1 wr) (fun i _ => p.length - (intOf i).toNat)
  case atStart => exact ⟨0, Nat.zero_le _, rfl, rfl, Below.refl _ _⟩
  case round =>
   obtain ⟨k, hk, rfl, hall, BB⟩ := hrel
   obtain ⟨y0, y1, y2, y3, y4, y5, y6, y7, y8⟩ := zAc (zAa BB HX.out)
   by_cases hlt : k < p.length
   ·have hlt' : (k : Int) < (p.length : Int) := by omega
    obtain ⟨z, hz⟩ : ∃ z, p[k]? = some z := ⟨_, List.getElem?_eq_getElem hlt⟩
    obtain ⟨b, off, rfl, x0, x1, x2, x3, -⟩ := zEt (KP.out _ (zAb HB.out BB)) hz
    cases hb : zBN z
    ·have HN : Hid (A = false) := by rw [← HA.out]; exact zK0 hz hb
     have HBB : Hid _ := BB
     clear hz hall BB
     go_wp2_with (go_at_call 51; refine (zCu _ _ _ _ _).mono ?_; rintro e w' ⟨rfl, bb⟩; rw [show opB z.1 z.2.1 z.2.2.1 z.2.2.2 = _ from hb])
     go_ret
     exact ⟨zA2 (by rw [HR.out, HN.out]; rfl), zAb (zAb HB.out HBB.out) bb⟩
    ·have HT : Hid ((p.take (k + 1)).all zBN = true) := zI2 hall hz hb
     have HBB : Hid _ := BB
     clear hz hall BB
     go_wp2_with (go_at_call 51; refine (zCu _ _ _ _ _).mono ?_; rintro e w' ⟨rfl, bb⟩; rw [show opB z.1 z.2.1 z.2.2.1 z.2.2.2 = _ from hb])
     go_roundw
     case rel => exact ⟨k + 1, by omega, by go_num, HT.out, zAb HBB.out bb⟩
     case measure => simp [intOf]; omega
   ·have hkl : k = p.length := by omega
    subst hkl
    rw [List.take_length] at hall
    have hA1 : A = true := by rw [← HA.out]; exact hall
    subst hA1
    have HBB : Hid (Below w.heap.size w wr) := zAb HB.out BB
    have HRW : Hid _ := zAa BB HX.out
    clear hall BB hlt hk HA
    have HV : Hid (zAZ (c, p, at_, 1, u, t) = ((zEf u || zBi isL u) && decide (atC c u.1 = none))) := by unfold Hid; rw [HR.out, Bool.true_and]; unfold zJs; exact if_pos rfl
    have KA1 : Hid _ := fun W => KA.out W HOK.out
    clear KA
    cases hb1 : zAQ u.1 0 15
    ·have hgo : zEf u = false := by unfold zEf; rw [hb1]; rfl
     cases hF : zBi isL u
     ·go_wp2_with (first | (go_at_call 23; refine (zBa _ _ _ _).mono ?_; rintro e wz ⟨rfl, hz9⟩; rw [hz9]; clear hz9 wz; first | rw [hat] | rw [hph] | rw [hb1]) | (go_at_call 53; refine (KF.out _ HBB.out).mono ?_; rintro e wf ⟨rfl, bf⟩; rw [hF]; have bg := zAb HBB.out bf; obtain ⟨t0, t1, t2, t3, t4, t5, t6, t7, t8⟩ := zAc (zAa bf HRW.out)))
      go_ret
      exact ⟨zA2 (by rw [HV.out, hgo, hF]; rfl), bg⟩
     ·go_wp2_with (first | (go_at_call 23; refine (zBa _ _ _ _).mono ?_; rintro e wz ⟨rfl, hz9⟩; rw [hz9]; clear hz9 wz; first | rw [hat] | rw [hph] | rw [hb1]) | (go_at_call 53; refine (KF.out _ HBB.out).mono ?_; rintro e wf ⟨rfl, bf⟩; rw [hF]; have bg := zAb HBB.out bf; obtain ⟨t0, t1, t2, t3, t4, t5, t6, t7, t8⟩ := zAc (zAa bf HRW.out)) | (go_at_call 54; refine (KA1.out _ bg).mono ?_; rintro e wa ⟨rfl, ba⟩))
      go_ret
      exact ⟨zA2 (by rw [HV.out, hgo, hF]; simp [zI3]), zAb bg ba⟩
    by_cases hs0 : u.2.1 = 0
    case neg =>
     have hs1 : (u.2.1 == 0) = false := by simp [hs0]
     have hgo : zEf u = false := by unfold zEf; simp [hs0]
     clear hs0
     cases hF : zBi isL u
     ·go_wp2_with (first | (go_at_call 23; refine (zBa _ _ _ _).mono ?_; rintro e wz ⟨rfl, hz9⟩; rw [hz9]; clear hz9 wz; first | rw [hat] | rw [hph] | rw [hb1]) | (go_at_call 53; refine (KF.out _ HBB.out).mono ?_; rintro e wf ⟨rfl, bf⟩; rw [hF]; have bg := zAb HBB.out bf; obtain ⟨t0, t1, t2, t3, t4, t5, t6, t7, t8⟩ := zAc (zAa bf HRW.out)))
      go_ret
      exact ⟨zA2 (by rw [HV.out, hgo, hF]; rfl), bg⟩
     ·go_wp2_with (first | (go_at_call 23; refine (zBa _ _ _ _).mono ?_; rintro e wz ⟨rfl, hz9⟩; rw [hz9]; clear hz9 wz; first | rw [hat] | rw [hph] | rw [hb1]) | (go_at_call 53; refine (KF.out _ HBB.out).mono ?_; rintro e wf ⟨rfl, bf⟩; rw [hF]; have bg := zAb HBB.out bf; obtain ⟨t0, t1, t2, t3, t4, t5, t6, t7, t8⟩ := zAc (zAa bf HRW.out)) | (go_at_call 54; refine (KA1.out _ bg).mono ?_; rintro e wa ⟨rfl, ba⟩))
      go_ret
      exact ⟨zA2 (by rw [HV.out, hgo, hF]; simp [zI3]), zAb bg ba⟩
    have hs1 : (u.2.1 == 0) = true := by simp [hs0]
    by_cases hl0 : u.2.2.length = 0
    case neg =>
     have hl1 : ((u.2.2.length : Int) == 0) = false := beq_false_of_ne (by omega)
     have hgo : zEf u = false := by unfold zEf; simp [hl0]
     clear hs0 hl0
     cases hF : zBi isL u
     ·go_wp2_with (first | (go_at_call 23; refine (zBa _ _ _ _).mono ?_; rintro e wz ⟨rfl, hz9⟩; rw [hz9]; clear hz9 wz; first | rw [hat] | rw [hph] | rw [hb1]) | (go_at_call 53; refine (KF.out _ HBB.out).mono ?_; rintro e wf ⟨rfl, bf⟩; rw [hF]; have bg := zAb HBB.out bf; obtain ⟨t0, t1, t2, t3, t4, t5, t6, t7, t8⟩ := zAc (zAa bf HRW.out)))
      go_ret
      exact ⟨zA2 (by rw [HV.out, hgo, hF]; rfl), bg⟩
     ·go_wp2_with (first | (go_at_call 23; refine (zBa _ _ _ _).mono ?_; rintro e wz ⟨rfl, hz9⟩; rw [hz9]; clear hz9 wz; first | rw [hat] | rw [hph] | rw [hb1]) | (go_at_call 53; refine (KF.out _ HBB.out).mono ?_; rintro e wf ⟨rfl, bf⟩; rw [hF]; have bg := zAb HBB.out bf; obtain ⟨t0, t1, t2, t3, t4, t5, t6, t7, t8⟩ := zAc (zAa bf HRW.out)) | (go_at_call 54; refine (KA1.out _ bg).mono ?_; rintro e wa ⟨rfl, ba⟩))
      go_ret
      exact ⟨zA2 (by rw [HV.out, hgo, hF]; simp [zI3]), zAb bg ba⟩
    have hl1 : ((u.2.2.length : Int) == 0) = true := by simp [hl0]
    have hgo : zEf u = true := by unfold zEf; rw [hb1]; simp [hs0, hl0]
    clear hs0 hl0
    go_wp2_with (first | (go_at_call 23; refine (zBa _ _ _ _).mono ?_; rintro e wz ⟨rfl, hz9⟩; rw [hz9]; clear hz9 wz; first | rw [hat] | rw [hph] | rw [hb1]) | (go_at_call 54; refine (KA1.out _ HBB.out).mono ?_; rintro e wa ⟨rfl, ba⟩))
    go_ret
    exact ⟨zA2 (by rw [HV.out, hgo]; simp [zI3]), zAb HBB.out ba⟩
 ·by_cases hwt : at_ = (p.length : Int)
  ·have hwt' : (at_ == (p.length : Int)) = true := by simp [hwt]
   have hph : zAQ (2 : Int) 0 2 = true := by decide
   have HV : Hid (zAZ (c, p, at_, 2, u, t) = false) := by unfold Hid zAZ; simp [hwt]
   clear HTL HOK HHP hwt
   go_wp2_with (go_at_call 23; refine (zBa _ _ _ _).mono ?_; rintro e wz ⟨rfl, hz9⟩; rw [hz9]; clear hz9 wz; first | rw [hat] | rw [hph] | rw [hb1])
   go_ret
   exact ⟨zA2 HV.out.symm, HB.out⟩
  ·have hwt' : (at_ == (p.length : Int)) = false := by simp [hwt]
   have HR : Hid (zAZ (c, p, at_, 2, u, t) = (p.all zBN && zJs (c, p, at_, 2, u, t))) := by unfold Hid zAZ; simp [HOK.out, hn, hat, HTL.out, HHP.out, hwt]
   generalize hA : p.all zBN = A at HR
   have HA : Hid _ := hA
   clear hA
   have hph : zAQ (2 : Int) 0 2 = true := by decide
   go_wp2_with (go_at_call 23; refine (zBa _ _ _ _).mono ?_; rintro e wz ⟨rfl, hz9⟩; rw [hz9]; clear hz9 wz; first | rw [hat] | rw [hph] | rw [hb1])
   clear hph
   clear y0 y1 y2 y3 y4 y5 y6 y7 y8
   go_loopw [4] (fun i wr => ∃ k : Nat, k ≤ p.length ∧ i = .int .i64 k ∧ (p.take k).all zBN = true ∧ Below w1.heap.size w1 wr) (fun i _ => p.length - (intOf i).toNat)
   case atStart => exact ⟨0, Nat.zero_le _, rfl, rfl, Below.refl _ _⟩
   case round =>
    obtain ⟨k, hk, rfl, hall, BB⟩ := hrel
    obtain ⟨y0, y1, y2, y3, y4, y5, y6, y7, y8⟩ := zAc (zAa BB HX.out)
    by_cases hlt : k < p.length
    ·have hlt' : (k : Int) < (p.length : Int) := by omega
     obtain ⟨z, hz⟩ : ∃ z, p[k]? = some z := ⟨_, List.getElem?_eq_getElem hlt⟩
     obtain ⟨b, off, rfl, x0, x1, x2, x3, -⟩ := zEt (KP.out _ (zAb HB.out BB)) hz
     cases hb : zBN z
     ·have HN : Hid (A = false) := by rw [← HA.out]; exact zK0 hz hb
      have HBB : Hid _ := BB
      clear hz hall BB
      go_wp2_with (go_at_call 51; refine (zCu _ _ _ _ _).mono ?_; rintro e w' ⟨rfl, bb⟩; rw [show opB z.1 z.2.1 z.2.2.1 z.2.2.2 = _ from hb])
      go_ret
      exact ⟨zA2 (by rw [HR.out, HN.out]; rfl), zAb (zAb HB.out HBB.out) bb⟩
     ·have HT : Hid ((p.take (k + 1)).all zBN = true) := zI2 hall hz hb
      have HBB : Hid _ := BB
      clear hz hall BB
      go_wp2_with (go_at_call 51; refine (zCu _ _ _ _ _).mono ?_; rintro e w' ⟨rfl, bb⟩; rw [show opB z.1 z.2.1 z.2.2.1 z.2.2.2 = _ from hb])
      go_roundw
      case rel => exact ⟨k + 1, by omega, by go_num, HT.out, zAb HBB.out bb⟩
      case measure => simp [intOf]; omega
    ·have hkl : k = p.length := by omega
     subst hkl
     rw [List.take_length] at hall
     have hA1 : A = true := by rw [← HA.out]; exact hall
     subst hA1
     have HBB : Hid (Below w.heap.size w wr) := zAb HB.out BB
     have HRW : Hid _ := zAa BB HX.out
     clear hall BB hlt hk HA
     have HV : Hid (zAZ (c, p, at_, 2, u, t) = zB7 u) := by unfold Hid; rw [HR.out, Bool.true_and]; unfold zJs; exact if_neg (show ¬ ((2 : Int) = 1) by decide)
     go_wp2_with (go_at_call 52; refine (KL.out _).mono ?_; rintro e w' ⟨rfl, bb⟩)
     go_ret
     exact ⟨zA2 HV.out.symm, zAb HBB.out bb⟩
end Go.Proofs.YtoihjejenjcokaaGreatDoor
