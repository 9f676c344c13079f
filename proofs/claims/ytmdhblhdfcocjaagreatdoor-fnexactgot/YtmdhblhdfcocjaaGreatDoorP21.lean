import Derived.Test.YtmdhblhdfcocjaaGreatDoorP00Box
import Derived.Laws.EntriesVeiled
import Derived.Deep.WholeRow
import Derived.Test.YtmdhblhdfcocjaaGreatDoorP20
namespace Go.Proofs.YtmdhblhdfcocjaaGreatDoor
set_option maxHeartbeats 8000000
set_option maxRecDepth 20000
open Go.ChangeShapes Go.WideShapes Go.ChangeAt Go.RowKit
def zDV (k : Int) : Int := if k = 1 then 0 else 9999
def zEu (k : Int) : Int := if k = 5 then 9999 else 0
def opB (k a x y : Int) : Bool := zAP k 1 5 && (zAP a 0 31 && (zAP x 0 (zDV k) && zAP y 0 (zEu k)))
def zC0 (k x y z : Int) : Int := if k = 1 then z else if k = 2 then x else if k = 3 then (z + x) % 10000 else if k = 4 then x else if z = x then y else z
def zCt (k z : Int) : Int := if k = 2 then 0 else z
theorem zDm (w : World) (o : Obj) (c c' : Array Value) (t : TypeId) : ((w.alloc o).alloc (.cells c t)).setRow (w.heap.size + 1) c' = (w.alloc o).alloc (.cells c' t) := by
 have := World.setRow_alloc_new (w.alloc o) c c' t;rwa [show (w.alloc o).heap.size = w.heap.size + 1 by simp] at this
theorem zEv (w : World) (o o2 : Obj) : ((w.alloc o).alloc o2).heap[w.heap.size + 1]? = some o2 := by
 have := heap_alloc_last (w.alloc o) o2;rwa [show (w.alloc o).heap.size = w.heap.size + 1 by simp] at this
theorem zDn {W : World} {g : Nat} {v0 v1 v2 v3 : Value} {t : TypeId} (R : W.heap[g]? = some (.cells #[v0, v1, v2, v3] t (0, 0))) :
    (∀ n : Cls (fun wx => Bl W wx), n.w.cell? ⟨g, 0, none⟩ = some v0) ∧ (∀ n : Cls (fun wx => Bl W wx), n.w.cell? ⟨g, 1, none⟩ = some v1) ∧
     (∀ n : Cls (fun wx => Bl W wx), n.w.cell? ⟨g, 2, none⟩ = some v2) ∧ (∀ n : Cls (fun wx => Bl W wx), n.w.cell? ⟨g, 3, none⟩ = some v3) := by
 refine ⟨fun n => ?_, fun n => ?_, fun n => ?_, fun n => ?_⟩
 ·rw [cell_of_row n.w g 0 _ t (0, 0) (zAa n.h R)]; rfl
 ·rw [cell_of_row n.w g 1 _ t (0, 0) (zAa n.h R)]; rfl
 ·rw [cell_of_row n.w g 2 _ t (0, 0) (zAa n.h R)]; rfl
 ·rw [cell_of_row n.w g 3 _ t (0, 0) (zAa n.h R)]; rfl
theorem zFt {W : World} {g : Nat} {v0 v1 v2 v3 : Value} {t : TypeId} (R : W.heap[g]? = some (.cells #[v0, v1, v2, v3] t (0, 0))) :
    W.cell? ⟨g, 0, none⟩ = some v0 ∧ W.cell? ⟨g, 1, none⟩ = some v1 ∧ W.cell? ⟨g, 2, none⟩ = some v2 ∧ W.cell? ⟨g, 3, none⟩ = some v3 := by
 refine ⟨?_, ?_, ?_, ?_⟩
 ·rw [cell_of_row W g 0 _ t (0, 0) R]; rfl
 ·rw [cell_of_row W g 1 _ t (0, 0) R]; rfl
 ·rw [cell_of_row W g 2 _ t (0, 0) R]; rfl
 ·rw [cell_of_row W g 3 _ t (0, 0) R]; rfl
theorem zNo {w w' : World} {n : Nat} (h : Below n w w') {k : Nat} : Below n w (w'.drewN k) := ⟨h.os, h.tape, h.output, h.size, h.block⟩
theorem zLm {k : Int} (h : zAP k 1 5 = true) : k = 1 ∨ k = 2 ∨ k = 3 ∨ k = 4 ∨ k = 5 := by simp [zAP] at h; omega
theorem zI2 {w w1 : World} {cs : Array Value} {t : TypeId} (h : Below (w.alloc (.cells cs t)).heap.size (w.alloc (.cells cs t)) w1) (j : Nat) : w1.cell? ⟨w.heap.size, j, none⟩ = cs[j]? := by
 rw [h.cell (by simp), cell_of_row (w.alloc (.cells cs t)) w.heap.size j cs t (0, 0) (heap_alloc_new w _)]
theorem op_box {w w1 : World} {v0 v1 v2 v3 : Value} {t : TypeId} (h : Below (w.alloc (.cells #[v0, v1, v2, v3] t)).heap.size (w.alloc (.cells #[v0, v1, v2, v3] t)) w1) :
    w1.cell? ⟨w.heap.size, 0, none⟩ = some v0 ∧ w1.cell? ⟨w.heap.size, 1, none⟩ = some v1 ∧ w1.cell? ⟨w.heap.size, 2, none⟩ = some v2 ∧ w1.cell? ⟨w.heap.size, 3, none⟩ = some v3 :=
 ⟨zI2 h 0, zI2 h 1, zI2 h 2, zI2 h 3⟩
theorem zNp (w : World) :
    Calls Tryz.prog 116 #[nI 1] w fun e w' => e = .returned (.agg #[nI 0, nI 0, .func (.func 140) #[] #[], .func (.func 141) #[] #[]]) ∧ Bl w w' := by
 go_enter Tryz.func116, Tryz.ntmps116;go_upto_region 1 with fail
 iterate 23 go_step
 refine wp_store_row 165 _ _ rfl (w.heap.size + 1) _ (by rfl) (by rfl) 165 _ (zEv _ _ _) (by kernel_rfl) (by rfl) (by kernel_rfl) ?_;rw [zDm];go_wp2;refine bodyPost_ret (v := .agg #[nI 0, nI 0, .func (.func 140) #[] #[], .func (.func 141) #[] #[]]) (by simp [results, Tryz.results116, go_sem]) rfl ⟨rfl, ?_⟩;repeat first
  | exact Below.refl _ _
  | refine Below.setCell ?_ (by simp <;> omega) _
  | refine Below.alloc ?_ (by simp <;> omega) _
  | refine Below.drew ?_
theorem zNq (w : World) :
    Calls Tryz.prog 116 #[nI 2] w fun e w' => e = .returned (.agg #[nI 9999, nI 0, .func (.func 142) #[] #[], .func (.func 143) #[] #[]]) ∧ Bl w w' := by
 go_enter Tryz.func116, Tryz.ntmps116;go_upto_region 1 with fail
 iterate 23 go_step
 refine wp_store_row 165 _ _ rfl (w.heap.size + 1) _ (by rfl) (by rfl) 165 _ (zEv _ _ _) (by kernel_rfl) (by rfl) (by kernel_rfl) ?_;rw [zDm];go_wp2;refine bodyPost_ret (v := .agg #[nI 9999, nI 0, .func (.func 142) #[] #[], .func (.func 143) #[] #[]]) (by simp [results, Tryz.results116, go_sem]) rfl ⟨rfl, ?_⟩;repeat first
  | exact Below.refl _ _
  | refine Below.setCell ?_ (by simp <;> omega) _
  | refine Below.alloc ?_ (by simp <;> omega) _
  | refine Below.drew ?_
theorem zNr (w : World) :
    Calls Tryz.prog 116 #[nI 3] w fun e w' => e = .returned (.agg #[nI 9999, nI 0, .func (.func 144) #[] #[], .func (.func 141) #[] #[]]) ∧ Bl w w' := by
 go_enter Tryz.func116, Tryz.ntmps116;go_upto_region 1 with fail
 iterate 23 go_step
 refine wp_store_row 165 _ _ rfl (w.heap.size + 1) _ (by rfl) (by rfl) 165 _ (zEv _ _ _) (by kernel_rfl) (by rfl) (by kernel_rfl) ?_;rw [zDm];go_wp2;refine bodyPost_ret (v := .agg #[nI 9999, nI 0, .func (.func 144) #[] #[], .func (.func 141) #[] #[]]) (by simp [results, Tryz.results116, go_sem]) rfl ⟨rfl, ?_⟩;repeat first
  | exact Below.refl _ _
  | refine Below.setCell ?_ (by simp <;> omega) _
  | refine Below.alloc ?_ (by simp <;> omega) _
  | refine Below.drew ?_
theorem zNs (w : World) :
    Calls Tryz.prog 116 #[nI 4] w fun e w' => e = .returned (.agg #[nI 9999, nI 0, .func (.func 142) #[] #[], .func (.func 141) #[] #[]]) ∧ Bl w w' := by
 go_enter Tryz.func116, Tryz.ntmps116;go_upto_region 1 with fail
 iterate 23 go_step
 refine wp_store_row 165 _ _ rfl (w.heap.size + 1) _ (by rfl) (by rfl) 165 _ (zEv _ _ _) (by kernel_rfl) (by rfl) (by kernel_rfl) ?_;rw [zDm];go_wp2;refine bodyPost_ret (v := .agg #[nI 9999, nI 0, .func (.func 142) #[] #[], .func (.func 141) #[] #[]]) (by simp [results, Tryz.results116, go_sem]) rfl ⟨rfl, ?_⟩;repeat first
  | exact Below.refl _ _
  | refine Below.setCell ?_ (by simp <;> omega) _
  | refine Below.alloc ?_ (by simp <;> omega) _
  | refine Below.drew ?_
theorem zNt (w : World) :
    Calls Tryz.prog 116 #[nI 5] w fun e w' => e = .returned (.agg #[nI 9999, nI 9999, .func (.func 145) #[] #[], .func (.func 141) #[] #[]]) ∧ Bl w w' := by
 go_enter Tryz.func116, Tryz.ntmps116;go_upto_region 1 with fail
 iterate 23 go_step
 refine wp_store_row 165 _ _ rfl (w.heap.size + 1) _ (by rfl) (by rfl) 165 _ (zEv _ _ _) (by kernel_rfl) (by rfl) (by kernel_rfl) ?_;rw [zDm];go_wp2;refine bodyPost_ret (v := .agg #[nI 9999, nI 9999, .func (.func 145) #[] #[], .func (.func 141) #[] #[]]) (by simp [results, Tryz.results116, go_sem]) rfl ⟨rfl, ?_⟩;repeat first
  | exact Below.refl _ _
  | refine Below.setCell ?_ (by simp <;> omega) _
  | refine Below.alloc ?_ (by simp <;> omega) _
  | refine Below.drew ?_
theorem zNu (k a x y z : Int) (w : World) :
    Calls Tryz.prog 140 #[.agg #[nI k, nI a, nI x, nI y], nI z] w fun e w' => e = .returned (nI z) ∧ Bl w w' := by
 have B := (Below.refl w.heap.size w).alloc (Nat.le_refl _);go_enter Tryz.func140, Tryz.ntmps140;go_wp2;go_ret
 exact ⟨rfl, B _⟩
theorem zFU (k a x y z : Int) (w : World) :
    Calls Tryz.prog 142 #[.agg #[nI k, nI a, nI x, nI y], nI z] w fun e w' => e = .returned (nI x) ∧ Bl w w' := by
 have B := (Below.refl w.heap.size w).alloc (Nat.le_refl _);go_enter Tryz.func142, Tryz.ntmps142;go_wp2;go_ret
 exact ⟨rfl, B _⟩
theorem zNv (k a x y z : Int) (w : World) (hx : 0 ≤ x) (hx1 : x ≤ 9999) (hz : 0 ≤ z) (hz1 : z ≤ 9999) :
    Calls Tryz.prog 144 #[.agg #[nI k, nI a, nI x, nI y], nI z] w fun e w' => e = .returned (nI ((z + x) % 10000)) ∧ Bl w w' := by
 have B := (Below.refl w.heap.size w).alloc (Nat.le_refl _);go_enter Tryz.func144, Tryz.ntmps144;go_wp2;go_ret
 exact ⟨zAV (by first | rfl | (rw [Int.tmod_eq_emod_of_nonneg (by omega)]) | (congr 1; omega)), B _⟩
theorem zFG (k a x y z : Int) (w : World) :
    Calls Tryz.prog 145 #[.agg #[nI k, nI a, nI x, nI y], nI z] w fun e w' => e = .returned (nI (if z = x then y else z)) ∧ Bl w w' := by
 have B := (Below.refl w.heap.size w).alloc (Nat.le_refl _);by_cases h : z = x
 ·have H : Hid ((if z = x then y else z) = y) := by unfold Hid; simp [h]
  subst h;generalize (if z = z then y else z) = q at H ⊢;go_enter Tryz.func145, Tryz.ntmps145;go_wp2;go_ret
  exact ⟨zAV H.out.symm, B _⟩
 ·have H : Hid ((if z = x then y else z) = z) := by unfold Hid; simp [h]
  generalize (if z = x then y else z) = q at H ⊢;go_enter Tryz.func145, Tryz.ntmps145;go_wp2;go_ret
  exact ⟨zAV H.out.symm, B _⟩
theorem zCX (z : Int) (w : World) :
    Calls Tryz.prog 141 #[nI z] w fun e w' => e = .returned (nI z) ∧ w' = w := by
 go_enter Tryz.func141, Tryz.ntmps141;go_wp2;go_ret
 exact ⟨rfl, rfl⟩
theorem zKz (z : Int) (w : World) :
    Calls Tryz.prog 143 #[nI z] w fun e w' => e = .returned (nI 0) ∧ w' = w := by
 go_enter Tryz.func143, Tryz.ntmps143;go_wp2;go_ret
 exact ⟨rfl, rfl⟩
theorem zFu (p q : Int) (f g : Value) (k a x y : Int) (w : World) :
    Calls Tryz.prog 117 #[.agg #[nI p, nI q, f, g], .agg #[nI k, nI a, nI x, nI y]] w fun e b => e = .returned (.bool (zAP x 0 p && zAP y 0 q)) ∧ Bl w b := by
 cases h : zAP x 0 p
 all_goals
  go_enter Tryz.func117, Tryz.ntmps117;go_wp2_with (go_at_call 68; refine (zBd _ _ _ _).mono ?_; rintro e b ⟨rfl, rfl⟩)
  go_ret
  refine ⟨rfl, ?_⟩;exact (Below.alloc (Below.alloc (Below.refl _ _) (Nat.le_refl _) _) (by simp) _)
theorem zBS (k a x y : Int) (w : World) :
    Calls Tryz.prog 93 #[.agg #[nI k, nI a, nI x, nI y]] w fun e w' => e = .returned (.bool (opB k a x y)) ∧ Bl w w' := by
 have B := (Below.refl w.heap.size w).alloc (Nat.le_refl _);cases j : zAP k 1 5
 ·have H : Hid (opB k a x y = false) := by unfold Hid opB; simp [j]
  go_enter Tryz.func93, Tryz.ntmps93;go_wp2;go_quiet (first | (go_at_call 68; exact Calls.quiet_of_same (zBd _ _ _ _)))
  go_wp2;go_ret
  exact ⟨zA2 H.out.symm, zNo (B _)⟩
 ·cases l : zAP a 0 31
  ·have H : Hid (opB k a x y = false) := by unfold Hid opB; simp [l]
   go_enter Tryz.func93, Tryz.ntmps93;go_wp2;go_quiet (first | (go_at_call 68; exact Calls.quiet_of_same (zBd _ _ _ _)))
   go_wp2;go_ret
   exact ⟨zA2 H.out.symm, zNo (B _)⟩
  ·rcases zLm j with rfl | rfl | rfl | rfl | rfl
   ·have H : Hid (opB 1 a x y = (zAP x 0 0 && zAP y 0 0)) := by unfold Hid opB; rw [j, l]; rfl
    have R := heap_alloc_new w (.cells #[nI 1, nI a, nI x, nI y] 85);replace B := B (.cells #[nI 1, nI a, nI x, nI y] 85);go_enter Tryz.func93, Tryz.ntmps93;go_wp2;generalize w.alloc (.cells #[nI 1, nI a, nI x, nI y] 85) = W at R B ⊢;obtain ⟨i, f, d, g⟩ := zDn R;clear R;refine zA8 (fun wx => Bl W wx) (by kernel_rfl) (by kernel_rfl) ((Below.refl _ W).drew) ?_;intro b
    repeat (quiet_step (first
     | (go_at_call 68; exact zAS (zBd _ _ _ _))
     | (go_at_call 116; exact zAz (zNp _) (fun w' hc bb => zAb hc bb))
     | (go_at_call 117; exact zAz (zFu _ _ _ _ _ _ _ _ _) (fun w' hc bb => zAb hc bb))))
    refine wpQuiet_nil ?_;intro wx c;clear i f d g b;go_wp2;go_ret
    exact ⟨zA2 H.out.symm, zAb B c⟩
   ·have H : Hid (opB 2 a x y = (zAP x 0 9999 && zAP y 0 0)) := by unfold Hid opB; rw [j, l]; rfl
    have R := heap_alloc_new w (.cells #[nI 2, nI a, nI x, nI y] 85);replace B := B (.cells #[nI 2, nI a, nI x, nI y] 85);go_enter Tryz.func93, Tryz.ntmps93;go_wp2;generalize w.alloc (.cells #[nI 2, nI a, nI x, nI y] 85) = W at R B ⊢;obtain ⟨i, f, d, g⟩ := zDn R;clear R;refine zA8 (fun wx => Bl W wx) (by kernel_rfl) (by kernel_rfl) ((Below.refl _ W).drew) ?_;intro b
    repeat (quiet_step (first
     | (go_at_call 68; exact zAS (zBd _ _ _ _))
     | (go_at_call 116; exact zAz (zNq _) (fun w' hc bb => zAb hc bb))
     | (go_at_call 117; exact zAz (zFu _ _ _ _ _ _ _ _ _) (fun w' hc bb => zAb hc bb))))
    refine wpQuiet_nil ?_;intro wx c;clear i f d g b;go_wp2;go_ret
    exact ⟨zA2 H.out.symm, zAb B c⟩
   ·have H : Hid (opB 3 a x y = (zAP x 0 9999 && zAP y 0 0)) := by unfold Hid opB; rw [j, l]; rfl
    have R := heap_alloc_new w (.cells #[nI 3, nI a, nI x, nI y] 85);replace B := B (.cells #[nI 3, nI a, nI x, nI y] 85);go_enter Tryz.func93, Tryz.ntmps93;go_wp2;generalize w.alloc (.cells #[nI 3, nI a, nI x, nI y] 85) = W at R B ⊢;obtain ⟨i, f, d, g⟩ := zDn R;clear R;refine zA8 (fun wx => Bl W wx) (by kernel_rfl) (by kernel_rfl) ((Below.refl _ W).drew) ?_;intro b
    repeat (quiet_step (first
     | (go_at_call 68; exact zAS (zBd _ _ _ _))
     | (go_at_call 116; exact zAz (zNr _) (fun w' hc bb => zAb hc bb))
     | (go_at_call 117; exact zAz (zFu _ _ _ _ _ _ _ _ _) (fun w' hc bb => zAb hc bb))))
    refine wpQuiet_nil ?_;intro wx c;clear i f d g b;go_wp2;go_ret
    exact ⟨zA2 H.out.symm, zAb B c⟩
   ·have H : Hid (opB 4 a x y = (zAP x 0 9999 && zAP y 0 0)) := by unfold Hid opB; rw [j, l]; rfl
    have R := heap_alloc_new w (.cells #[nI 4, nI a, nI x, nI y] 85);replace B := B (.cells #[nI 4, nI a, nI x, nI y] 85);go_enter Tryz.func93, Tryz.ntmps93;go_wp2;generalize w.alloc (.cells #[nI 4, nI a, nI x, nI y] 85) = W at R B ⊢;obtain ⟨i, f, d, g⟩ := zDn R;clear R;refine zA8 (fun wx => Bl W wx) (by kernel_rfl) (by kernel_rfl) ((Below.refl _ W).drew) ?_;intro b
    repeat (quiet_step (first
     | (go_at_call 68; exact zAS (zBd _ _ _ _))
     | (go_at_call 116; exact zAz (zNs _) (fun w' hc bb => zAb hc bb))
     | (go_at_call 117; exact zAz (zFu _ _ _ _ _ _ _ _ _) (fun w' hc bb => zAb hc bb))))
    refine wpQuiet_nil ?_;intro wx c;clear i f d g b;go_wp2;go_ret
    exact ⟨zA2 H.out.symm, zAb B c⟩
   ·have H : Hid (opB 5 a x y = (zAP x 0 9999 && zAP y 0 9999)) := by unfold Hid opB; rw [j, l]; rfl
    have R := heap_alloc_new w (.cells #[nI 5, nI a, nI x, nI y] 85);replace B := B (.cells #[nI 5, nI a, nI x, nI y] 85);go_enter Tryz.func93, Tryz.ntmps93;go_wp2;generalize w.alloc (.cells #[nI 5, nI a, nI x, nI y] 85) = W at R B ⊢;obtain ⟨i, f, d, g⟩ := zDn R;clear R;refine zA8 (fun wx => Bl W wx) (by kernel_rfl) (by kernel_rfl) ((Below.refl _ W).drew) ?_;intro b
    repeat (quiet_step (first
     | (go_at_call 68; exact zAS (zBd _ _ _ _))
     | (go_at_call 116; exact zAz (zNt _) (fun w' hc bb => zAb hc bb))
     | (go_at_call 117; exact zAz (zFu _ _ _ _ _ _ _ _ _) (fun w' hc bb => zAb hc bb))))
    refine wpQuiet_nil ?_;intro wx c;clear i f d g b;go_wp2;go_ret
    exact ⟨zA2 H.out.symm, zAb B c⟩
theorem zHu (k a x y : Int) (w : World) :
    Calls Tryz.prog 131 #[.agg #[nI k, nI a, nI x, nI y]] w fun e w' => e = .returned (.bool (opB k a x y && k != 1)) ∧ Bl w w' := by
 have B := (Below.refl w.heap.size w).alloc (Nat.le_refl _);cases h : opB k a x y
 all_goals
  go_enter Tryz.func131, Tryz.ntmps131;go_wp2_with (go_at_call 93; refine (zBS _ _ _ _ _).mono ?_; rintro e w1 ⟨rfl, b⟩; obtain ⟨c0, c1, c2, c3⟩ := op_box b)
  go_ret
  exact ⟨rfl, zAb (B _) b⟩
theorem zCu (k a x y : Int) (w : World) :
    Calls Tryz.prog 51 #[.agg #[nI k, nI a, nI x, nI y]] w fun e b => e = .returned (.bool (opB k a x y)) ∧ Bl w b := by
 have B := (Below.refl w.heap.size w).alloc (Nat.le_refl _);cases f : zAP k 1 5 <;> cases i : zAP a 0 31 <;> cases d : okW x <;> cases c : okW y
 case true.true.true.true =>
  rcases zLm f with rfl | rfl | rfl | rfl | rfl
  ·have H : Hid (opB 1 a x y = (x == 0 && y == 0)) := by
     unfold Hid opB zDV zEu;unfold okW zAP at d c;rw [f, i];unfold zAP;rw [Bool.eq_iff_iff];simp at d c ⊢
     omega
   by_cases j : x = 0 <;> by_cases g : y = 0
   all_goals
    go_enter Tryz.func51, Tryz.ntmps51
    go_wp2_with (first
     | (go_at_call 23; refine (zAZ _ _ _ _).mono ?_; rintro e b ⟨rfl, rfl⟩)
     | (go_at_call 83; refine (zCL _ _).mono ?_; rintro e b ⟨rfl, rfl⟩))
    go_ret
    exact ⟨zA2 (H.out.trans (by simp [j, g])).symm, B _⟩
  ·have H : Hid (opB 2 a x y = (y == 0)) := by
     unfold Hid opB zDV zEu;unfold okW zAP at d c;rw [f, i];unfold zAP;rw [Bool.eq_iff_iff];simp at d c ⊢
     omega
   by_cases g : y = 0
   all_goals
    go_enter Tryz.func51, Tryz.ntmps51
    go_wp2_with (first
     | (go_at_call 23; refine (zAZ _ _ _ _).mono ?_; rintro e b ⟨rfl, rfl⟩)
     | (go_at_call 83; refine (zCL _ _).mono ?_; rintro e b ⟨rfl, rfl⟩))
    go_ret
    exact ⟨zA2 (H.out.trans (by simp [g])).symm, B _⟩
  ·have H : Hid (opB 3 a x y = (y == 0)) := by
     unfold Hid opB zDV zEu;unfold okW zAP at d c;rw [f, i];unfold zAP;rw [Bool.eq_iff_iff];simp at d c ⊢
     omega
   by_cases g : y = 0
   all_goals
    go_enter Tryz.func51, Tryz.ntmps51
    go_wp2_with (first
     | (go_at_call 23; refine (zAZ _ _ _ _).mono ?_; rintro e b ⟨rfl, rfl⟩)
     | (go_at_call 83; refine (zCL _ _).mono ?_; rintro e b ⟨rfl, rfl⟩))
    go_ret
    exact ⟨zA2 (H.out.trans (by simp [g])).symm, B _⟩
  ·have H : Hid (opB 4 a x y = (y == 0)) := by
     unfold Hid opB zDV zEu;unfold okW zAP at d c;rw [f, i];unfold zAP;rw [Bool.eq_iff_iff];simp at d c ⊢
     omega
   by_cases g : y = 0
   all_goals
    go_enter Tryz.func51, Tryz.ntmps51
    go_wp2_with (first
     | (go_at_call 23; refine (zAZ _ _ _ _).mono ?_; rintro e b ⟨rfl, rfl⟩)
     | (go_at_call 83; refine (zCL _ _).mono ?_; rintro e b ⟨rfl, rfl⟩))
    go_ret
    exact ⟨zA2 (H.out.trans (by simp [g])).symm, B _⟩
  ·have H : Hid (opB 5 a x y = true) := by
     unfold Hid opB zDV zEu;unfold okW zAP at d c;rw [f, i];unfold zAP;rw [Bool.eq_iff_iff];simp at d c ⊢
     omega
   skip
   all_goals
    go_enter Tryz.func51, Tryz.ntmps51
    go_wp2_with (first
     | (go_at_call 23; refine (zAZ _ _ _ _).mono ?_; rintro e b ⟨rfl, rfl⟩)
     | (go_at_call 83; refine (zCL _ _).mono ?_; rintro e b ⟨rfl, rfl⟩))
    go_ret
    exact ⟨zA2 (H.out.trans (by simp [])).symm, B _⟩
 all_goals
  have H : Hid (opB k a x y = false) := by
   unfold Hid opB zDV zEu;unfold okW zAP at d c;unfold zAP at f i ⊢;rw [Bool.eq_iff_iff];simp at f i d c ⊢
   intros
   try split
   all_goals omega
  go_enter Tryz.func51, Tryz.ntmps51
  go_wp2_with (first
        | (go_at_call 23; refine (zAZ _ _ _ _).mono ?_; rintro e b ⟨rfl, rfl⟩)
        | (go_at_call 83; refine (zCL _ _).mono ?_; rintro e b ⟨rfl, rfl⟩))
  go_ret
  exact ⟨zA2 H.out.symm, B _⟩
theorem zHv (k a x y : Int) (w : World) :
    Calls Tryz.prog 85 #[.agg #[nI k, nI a, nI x, nI y]] w fun e w' => e = .returned (.bool (opB k a x y && k != 1)) ∧ Bl w w' := by
 have B := (Below.refl w.heap.size w).alloc (Nat.le_refl _);cases h : opB k a x y
 all_goals
  go_enter Tryz.func85, Tryz.ntmps85;go_wp2_with (go_at_call 51; refine (zCu _ _ _ _ _).mono ?_; rintro e w1 ⟨rfl, b⟩; obtain ⟨c0, c1, c2, c3⟩ := op_box b)
  go_ret
  exact ⟨rfl, zAb (B _) b⟩
set_option linter.unusedVariables false
theorem zB3 {w : World} {g : Nat} {x0 x1 x2 x3 : Value} {t : TypeId} (h : w.heap[g]? = some (.cells #[x0, x1, x2, x3] t (0, 0))) :
    w.cell? ⟨g, 0, none⟩ = some x0 ∧ w.cell? ⟨g, 1, none⟩ = some x1 ∧ w.cell? ⟨g, 2, none⟩ = some x2 ∧ w.cell? ⟨g, 3, none⟩ = some x3 :=
 ⟨by rw [cell_of_row w g 0 _ t (0, 0) h]; rfl, by rw [cell_of_row w g 1 _ t (0, 0) h]; rfl, by rw [cell_of_row w g 2 _ t (0, 0) h]; rfl, by rw [cell_of_row w g 3 _ t (0, 0) h]; rfl⟩
def zBN (u : OpD) : Bool := opB u.1 u.2.1 u.2.2.1 u.2.2.2
theorem zI3 {α : Type} {p : α → Bool} {xs : List α} {k : Nat} {x : α} (h : (xs.take k).all p = true) (hx : xs[k]? = some x) (hp : p x = true) : (xs.take (k + 1)).all p = true := by
 rw [List.take_add_one, hx, List.all_append, h];simp [hp]
theorem zK0 {α : Type} {p : α → Bool} {xs : List α} {k : Nat} {x : α} (hx : xs[k]? = some x) (hp : p x = false) : xs.all p = false := by
 rw [Bool.eq_false_iff];intro h;have := List.all_eq_true.1 h x (List.mem_of_getElem? hx);rw [hp] at this;cases this
def zEf (u : zAT) : Bool := zAP u.1 0 15 && (decide (u.2.1 = 0) && decide (u.2.2.length = 0))
noncomputable def zJs (x : zAD) : Bool := if x.2.2.2.1 = 1 then (zEf x.2.2.2.2.1 || zBi isL x.2.2.2.2.1) && decide (atC x.1 x.2.2.2.2.1.1 = none) else zB7 x.2.2.2.2.1
noncomputable def zAY (x : zAD) : Bool := okB isL zAJ x.1 && (decide (x.2.1.length ≤ 30) && (zAP x.2.2.1 0 x.2.1.length && (decide ((x.2.2.2.2.2.length : Int) = x.2.2.1) && (zAP x.2.2.2.1 0 2 && (!(decide (x.2.2.2.1 = 2) && decide (x.2.2.1 = (x.2.1.length : Int))) && (x.2.1.all zBN && zJs x))))))
theorem zI4 (o : Option Nat) : decide (zGc o < 0) = decide (o = none) := by
 cases o with
 | none => rfl
 | some i => exact (decide_eq_false (show ¬ ((i : Int) < 0) by omega)).trans (decide_eq_false (by simp)).symm
theorem zGq {w : World} {a : Option Addr} {xs : List (List zAT)} (h : zBg zBl w a xs) : ∀ c ∈ xs, c.length ≤ maxLen := by
 intro c f;obtain ⟨j, k⟩ := List.getElem?_of_mem f;obtain ⟨b, l, cs, rfl, ⟨a', d, rfl, g, i, -⟩, -⟩ := zBG h k;exact Nat.le_trans g i
theorem zJt (cs : List Value) (x : zAD) (w : World) (h : zAn.rd w cs x) :
    Calls Tryz.prog 22 #[zBh cs] w fun e y => e = .returned (.bool (zAY x)) ∧ Bl w y := by
 obtain ⟨v0, v1, v2, v5, v6, v7, v8, rfl, r0, r1, i2, i3, r4, r5⟩ := zCs h;clear h;obtain ⟨a0, c0, b0, d0, e0, l1, l2, l3, l4, q0, q1⟩ := zAH r0;simp only [List.cons.injEq, and_true] at e0;obtain ⟨rfl, rfl⟩ := e0;obtain ⟨a1, c1, e1, k1, k2, q2⟩ := r1;simp only [List.cons.injEq, and_true] at e1;obtain rfl := e1;obtain ⟨a4, c4, e4, j1, j2, g1, g2, q4⟩ := zAL r4;simp only [List.cons.injEq, and_true] at e4;obtain ⟨rfl, rfl, rfl⟩ := e4;obtain ⟨a5, c5, e5, m1, m2, q5⟩ := r5;simp only [List.cons.injEq, and_true] at e5;obtain rfl := e5;clear r0 r4;obtain ⟨c, p, j, Y, u, t⟩ := x;simp only at *
 have qB : p.length ≤ 9223372036854775807 := Nat.le_trans k1 k2;have lB : t.length ≤ 9223372036854775807 := Nat.le_trans m1 m2;have NB : u.2.2.length ≤ 9223372036854775807 := Nat.le_trans g1 g2;have KC : Hid (∀ W, Bl w W → Calls Tryz.prog 50 #[.agg #[sL a0 c.1.length c0, sL b0 c.2.length d0]] W fun e y => e = .returned (.bool (okB isL zAJ c)) ∧ Bl W y) := fun W q => zGD a0 b0 c c0 d0 W (zAG q0 q) (zAG q1 q) (Nat.le_trans l1 l2) (Nat.le_trans l3 l4) (zGq q0);have KP : Hid (∀ W, Bl w W → zBg opR W a1 p) := fun W q => zAG q2 q;have KL : Hid (∀ W, Calls Tryz.prog 52 #[.agg #[nI u.1, nI u.2.1, sL a4 u.2.2.length c4]] W fun e y => e = .returned (.bool (zB7 u)) ∧ Bl W y) := fun W => by rw [← zHB]; exact zDP _ _ _ _ _ W (Nat.le_trans g1 g2)
 have KF : Hid (∀ W, Bl w W → Calls Tryz.prog 53 #[.agg #[nI u.1, nI u.2.1, sL a4 u.2.2.length c4]] W fun e y => e = .returned (.bool (zBi isL u)) ∧ Bl W y) := fun W q => zE6 u.1 u.2.1 u.2.2 a4 c4 W (zAG q4 q);have KA : Hid (∀ W, okB isL zAJ c = true → Bl w W → Calls Tryz.prog 54 #[.agg #[sL a0 c.1.length c0, sL b0 c.2.length d0], nI u.1] W fun e y => e = .returned (nI (zGc (atC c u.1))) ∧ Bl W y) := fun W hk q => zFD a0 b0 c c0 d0 u.1 W (zCK.1 hk) (zAG q0 q);clear q0 q1 q2 q4 q5 l1 l2 l3 l4 k1 k2 g1 g2 m1 m2 i2 i3 j1 j2;change Calls Tryz.prog 22 #[.agg #[sL a0 c.1.length c0, sL b0 c.2.length d0, sL a1 p.length c1, nI j, nI Y, nI u.1, nI u.2.1, sL a4 u.2.2.length c4, sL a5 t.length c5]] w _
 go_enter Tryz.func22, Tryz.ntmps22;go_wp2_with fail
 generalize eA : w.alloc _ = W0;have X := boxH eA;have B := boxB eA;clear eA;refine (KC.out _ B).mono ?_;rintro e w1 ⟨rfl, b1⟩;replace X := zAa b1 X;replace B := zAb B b1;clear b1 KC;obtain ⟨y0, y1, y2, y3, y4, y5, y6, y7, y8⟩ := zAc X;have HX : Hid _ := X;have F : Hid _ := B;clear X B;cases G : okB isL zAJ c
 ·skip
  have r : Hid (zAY (c, p, j, Y, u, t) = false) := by unfold Hid zAY; simp [G]
  clear G;go_wp2;go_ret
  exact ⟨zA2 r.out.symm, F.out⟩
 by_cases hn : p.length ≤ 30
 case neg =>
  have dB : (30 : Int) < (p.length : Int) := by omega
  have r : Hid (zAY (c, p, j, Y, u, t) = false) := by unfold Hid zAY; simp [hn]
  clear G hn;go_wp2;go_ret
  exact ⟨zA2 r.out.symm, F.out⟩
 have dB : ¬ ((30 : Int) < (p.length : Int)) := by omega
 cases l : zAP j 0 (p.length : Int)
 ·skip
  have r : Hid (zAY (c, p, j, Y, u, t) = false) := by unfold Hid zAY; simp [l]
  clear G;go_wp2_with (go_at_call 23; refine (zAZ _ _ _ _).mono ?_; rintro e o ⟨rfl, a⟩; rw [a]; clear a o; first | rw [l] | rw [g] | rw [m])
  go_ret
  exact ⟨zA2 r.out.symm, F.out⟩
 by_cases M : (t.length : Int) = j
 case neg =>
  have FA : ((t.length : Int) != j) = true := by simp [M]
  have r : Hid (zAY (c, p, j, Y, u, t) = false) := by unfold Hid zAY; simp [M]
  clear G M;go_wp2_with (go_at_call 23; refine (zAZ _ _ _ _).mono ?_; rintro e o ⟨rfl, a⟩; rw [a]; clear a o; first | rw [l] | rw [g] | rw [m])
  go_ret
  exact ⟨zA2 r.out.symm, F.out⟩
 have FA : ((t.length : Int) != j) = false := by simp [M]
 have T : Hid _ := M;have L : Hid _ := G;clear M G;cases g : zAP Y 0 2
 ·skip
  have r : Hid (zAY (c, p, j, Y, u, t) = false) := by unfold Hid zAY; simp [g]
  clear T L;go_wp2_with (go_at_call 23; refine (zAZ _ _ _ _).mono ?_; rintro e o ⟨rfl, a⟩; rw [a]; clear a o; first | rw [l] | rw [g] | rw [m])
  go_ret
  exact ⟨zA2 r.out.symm, F.out⟩
 have h3 : Y = 0 ∨ Y = 1 ∨ Y = 2 := by simp [zAP] at g; omega
 have aA : Hid _ := g;clear g;rcases h3 with rfl | rfl | rfl
 ·skip
  have U : Hid (zAY (c, p, j, 0, u, t) = (p.all zBN && zJs (c, p, j, 0, u, t))) := by unfold Hid zAY; simp [L.out, hn, l, T.out, aA.out]
  generalize hA : p.all zBN = A at U;have O : Hid _ := hA;clear hA;have g : zAP (0 : Int) 0 2 = true := by decide
  go_wp2_with (go_at_call 23; refine (zAZ _ _ _ _).mono ?_; rintro e o ⟨rfl, a⟩; rw [a]; clear a o; first | rw [l] | rw [g] | rw [m])
  clear g y0 y1 y2 y3 y4 y5 y6 y7 y8;go_loopw [4] (fun i wr => ∃ k : Nat, k ≤ p.length ∧ i = nI k ∧ (p.take k).all zBN = true ∧ Bl w1 wr) (fun i _ => p.length - (intOf i).toNat)
  case atStart => exact ⟨0, Nat.zero_le _, rfl, rfl, Below.refl _ _⟩
  case round =>
   obtain ⟨k, hk, rfl, d, n⟩ := hrel;obtain ⟨y0, y1, y2, y3, y4, y5, y6, y7, y8⟩ := zAc (zAa n HX.out);by_cases v : k < p.length
   ·have cA : (k : Int) < (p.length : Int) := by omega
    obtain ⟨z, E⟩ : ∃ z, p[k]? = some z := ⟨_, List.getElem?_eq_getElem v⟩;obtain ⟨b, NA, rfl, x0, x1, x2, x3, -⟩ := zEt (KP.out _ (zAb F.out n)) E;cases q : zBN z
    ·have HN : Hid (A = false) := by rw [← O.out]; exact zK0 E q
     have f : Hid _ := n;clear E d n;go_wp2_with (go_at_call 51; refine (zCu _ _ _ _ _).mono ?_; rintro e y ⟨rfl, H⟩; rw [show opB z.1 z.2.1 z.2.2.1 z.2.2.2 = _ from q])
     go_ret
     exact ⟨zA2 (by rw [U.out, HN.out]; rfl), zAb (zAb F.out f.out) H⟩
    ·have HT : Hid ((p.take (k + 1)).all zBN = true) := zI3 d E q;have f : Hid _ := n;clear E d n;go_wp2_with (go_at_call 51; refine (zCu _ _ _ _ _).mono ?_; rintro e y ⟨rfl, H⟩; rw [show opB z.1 z.2.1 z.2.2.1 z.2.2.2 = _ from q])
     go_roundw
     case rel => exact ⟨k + 1, by omega, by go_num, HT.out, zAb f.out H⟩
     case measure => simp [intOf]; omega
   ·have S : k = p.length := by omega
    subst S;rw [List.take_length] at d;have N : A = true := by rw [← O.out]; exact d
    subst N;have f : Hid (Bl w wr) := zAb F.out n;have D : Hid _ := zAa n HX.out;clear d n v hk O;have r : Hid (zAY (c, p, j, 0, u, t) = zB7 u) := by unfold Hid; rw [U.out, Bool.true_and]; unfold zJs; exact if_neg (show ¬ ((0 : Int) = 1) by decide)
    go_wp2_with (go_at_call 52; refine (KL.out _).mono ?_; rintro e y ⟨rfl, H⟩)
    go_ret
    exact ⟨zA2 r.out.symm, zAb f.out H⟩
 ·skip
  have U : Hid (zAY (c, p, j, 1, u, t) = (p.all zBN && zJs (c, p, j, 1, u, t))) := by unfold Hid zAY; simp [L.out, hn, l, T.out, aA.out]
  generalize hA : p.all zBN = A at U;have O : Hid _ := hA;clear hA;have g : zAP (1 : Int) 0 2 = true := by decide
  go_wp2_with (go_at_call 23; refine (zAZ _ _ _ _).mono ?_; rintro e o ⟨rfl, a⟩; rw [a]; clear a o; first | rw [l] | rw [g] | rw [m])
  clear g y0 y1 y2 y3 y4 y5 y6 y7 y8;go_loopw [4] (fun i wr => ∃ k : Nat, k ≤ p.length ∧ i = nI k ∧ (p.take k).all zBN = true ∧ Bl w1 wr) (fun i _ => p.length - (intOf i).toNat)
  case atStart => exact ⟨0, Nat.zero_le _, rfl, rfl, Below.refl _ _⟩
  case round =>
   obtain ⟨k, hk, rfl, d, n⟩ := hrel;obtain ⟨y0, y1, y2, y3, y4, y5, y6, y7, y8⟩ := zAc (zAa n HX.out);by_cases v : k < p.length
   ·have cA : (k : Int) < (p.length : Int) := by omega
    obtain ⟨z, E⟩ : ∃ z, p[k]? = some z := ⟨_, List.getElem?_eq_getElem v⟩;obtain ⟨b, NA, rfl, x0, x1, x2, x3, -⟩ := zEt (KP.out _ (zAb F.out n)) E;cases q : zBN z
    ·have HN : Hid (A = false) := by rw [← O.out]; exact zK0 E q
     have f : Hid _ := n;clear E d n;go_wp2_with (go_at_call 51; refine (zCu _ _ _ _ _).mono ?_; rintro e y ⟨rfl, H⟩; rw [show opB z.1 z.2.1 z.2.2.1 z.2.2.2 = _ from q])
     go_ret
     exact ⟨zA2 (by rw [U.out, HN.out]; rfl), zAb (zAb F.out f.out) H⟩
    ·have HT : Hid ((p.take (k + 1)).all zBN = true) := zI3 d E q;have f : Hid _ := n;clear E d n;go_wp2_with (go_at_call 51; refine (zCu _ _ _ _ _).mono ?_; rintro e y ⟨rfl, H⟩; rw [show opB z.1 z.2.1 z.2.2.1 z.2.2.2 = _ from q])
     go_roundw
     case rel => exact ⟨k + 1, by omega, by go_num, HT.out, zAb f.out H⟩
     case measure => simp [intOf]; omega
   ·have S : k = p.length := by omega
    subst S;rw [List.take_length] at d;have N : A = true := by rw [← O.out]; exact d
    subst N;have f : Hid (Bl w wr) := zAb F.out n;have D : Hid _ := zAa n HX.out;clear d n v hk O;have r : Hid (zAY (c, p, j, 1, u, t) = ((zEf u || zBi isL u) && decide (atC c u.1 = none))) := by unfold Hid; rw [U.out, Bool.true_and]; unfold zJs; exact if_pos rfl
    have Z : Hid _ := fun W => KA.out W L.out;clear KA;cases m : zAP u.1 0 15
    ·have s : zEf u = false := by unfold zEf; rw [m]; rfl
     cases K : zBi isL u
     ·go_wp2_with (first | (go_at_call 23; refine (zAZ _ _ _ _).mono ?_; rintro e o ⟨rfl, a⟩; rw [a]; clear a o; first | rw [l] | rw [g] | rw [m]) | (go_at_call 53; refine (KF.out _ f.out).mono ?_; rintro e wf ⟨rfl, C⟩; rw [K]; have J := zAb f.out C; obtain ⟨t0, t1, t2, t3, t4, t5, t6, t7, t8⟩ := zAc (zAa C D.out)))
      go_ret
      exact ⟨zA2 (by rw [r.out, s, K]; rfl), J⟩
     ·go_wp2_with (first | (go_at_call 23; refine (zAZ _ _ _ _).mono ?_; rintro e o ⟨rfl, a⟩; rw [a]; clear a o; first | rw [l] | rw [g] | rw [m]) | (go_at_call 53; refine (KF.out _ f.out).mono ?_; rintro e wf ⟨rfl, C⟩; rw [K]; have J := zAb f.out C; obtain ⟨t0, t1, t2, t3, t4, t5, t6, t7, t8⟩ := zAc (zAa C D.out)) | (go_at_call 54; refine (Z.out _ J).mono ?_; rintro e wa ⟨rfl, ba⟩))
      go_ret
      exact ⟨zA2 (by rw [r.out, s, K]; simp [zI4]), zAb J ba⟩
    by_cases I : u.2.1 = 0
    case neg =>
     have gB : (u.2.1 == 0) = false := by simp [I]
     have s : zEf u = false := by unfold zEf; simp [I]
     clear I;cases K : zBi isL u
     ·go_wp2_with (first | (go_at_call 23; refine (zAZ _ _ _ _).mono ?_; rintro e o ⟨rfl, a⟩; rw [a]; clear a o; first | rw [l] | rw [g] | rw [m]) | (go_at_call 53; refine (KF.out _ f.out).mono ?_; rintro e wf ⟨rfl, C⟩; rw [K]; have J := zAb f.out C; obtain ⟨t0, t1, t2, t3, t4, t5, t6, t7, t8⟩ := zAc (zAa C D.out)))
      go_ret
      exact ⟨zA2 (by rw [r.out, s, K]; rfl), J⟩
     ·go_wp2_with (first | (go_at_call 23; refine (zAZ _ _ _ _).mono ?_; rintro e o ⟨rfl, a⟩; rw [a]; clear a o; first | rw [l] | rw [g] | rw [m]) | (go_at_call 53; refine (KF.out _ f.out).mono ?_; rintro e wf ⟨rfl, C⟩; rw [K]; have J := zAb f.out C; obtain ⟨t0, t1, t2, t3, t4, t5, t6, t7, t8⟩ := zAc (zAa C D.out)) | (go_at_call 54; refine (Z.out _ J).mono ?_; rintro e wa ⟨rfl, ba⟩))
      go_ret
      exact ⟨zA2 (by rw [r.out, s, K]; simp [zI4]), zAb J ba⟩
    have gB : (u.2.1 == 0) = true := by simp [I]
    by_cases R : u.2.2.length = 0
    case neg =>
     have aB : ((u.2.2.length : Int) == 0) = false := beq_false_of_ne (by omega);have s : zEf u = false := by unfold zEf; simp [R]
     clear I R;cases K : zBi isL u
     ·go_wp2_with (first | (go_at_call 23; refine (zAZ _ _ _ _).mono ?_; rintro e o ⟨rfl, a⟩; rw [a]; clear a o; first | rw [l] | rw [g] | rw [m]) | (go_at_call 53; refine (KF.out _ f.out).mono ?_; rintro e wf ⟨rfl, C⟩; rw [K]; have J := zAb f.out C; obtain ⟨t0, t1, t2, t3, t4, t5, t6, t7, t8⟩ := zAc (zAa C D.out)))
      go_ret
      exact ⟨zA2 (by rw [r.out, s, K]; rfl), J⟩
     ·go_wp2_with (first | (go_at_call 23; refine (zAZ _ _ _ _).mono ?_; rintro e o ⟨rfl, a⟩; rw [a]; clear a o; first | rw [l] | rw [g] | rw [m]) | (go_at_call 53; refine (KF.out _ f.out).mono ?_; rintro e wf ⟨rfl, C⟩; rw [K]; have J := zAb f.out C; obtain ⟨t0, t1, t2, t3, t4, t5, t6, t7, t8⟩ := zAc (zAa C D.out)) | (go_at_call 54; refine (Z.out _ J).mono ?_; rintro e wa ⟨rfl, ba⟩))
      go_ret
      exact ⟨zA2 (by rw [r.out, s, K]; simp [zI4]), zAb J ba⟩
    have aB : ((u.2.2.length : Int) == 0) = true := by simp [R]
    have s : zEf u = true := by unfold zEf; rw [m]; simp [I, R]
    clear I R;go_wp2_with (first | (go_at_call 23; refine (zAZ _ _ _ _).mono ?_; rintro e o ⟨rfl, a⟩; rw [a]; clear a o; first | rw [l] | rw [g] | rw [m]) | (go_at_call 54; refine (Z.out _ f.out).mono ?_; rintro e wa ⟨rfl, ba⟩))
    go_ret
    exact ⟨zA2 (by rw [r.out, s]; simp [zI4]), zAb f.out ba⟩
 ·by_cases V : j = (p.length : Int)
  ·have vA : (j == (p.length : Int)) = true := by simp [V]
   have g : zAP (2 : Int) 0 2 = true := by decide
   have r : Hid (zAY (c, p, j, 2, u, t) = false) := by unfold Hid zAY; simp [V]
   clear T L aA V;go_wp2_with (go_at_call 23; refine (zAZ _ _ _ _).mono ?_; rintro e o ⟨rfl, a⟩; rw [a]; clear a o; first | rw [l] | rw [g] | rw [m])
   go_ret
   exact ⟨zA2 r.out.symm, F.out⟩
  ·have vA : (j == (p.length : Int)) = false := by simp [V]
   have U : Hid (zAY (c, p, j, 2, u, t) = (p.all zBN && zJs (c, p, j, 2, u, t))) := by unfold Hid zAY; simp [L.out, hn, l, T.out, aA.out, V]
   generalize hA : p.all zBN = A at U;have O : Hid _ := hA;clear hA;have g : zAP (2 : Int) 0 2 = true := by decide
   go_wp2_with (go_at_call 23; refine (zAZ _ _ _ _).mono ?_; rintro e o ⟨rfl, a⟩; rw [a]; clear a o; first | rw [l] | rw [g] | rw [m])
   clear g y0 y1 y2 y3 y4 y5 y6 y7 y8;go_loopw [4] (fun i wr => ∃ k : Nat, k ≤ p.length ∧ i = nI k ∧ (p.take k).all zBN = true ∧ Bl w1 wr) (fun i _ => p.length - (intOf i).toNat)
   case atStart => exact ⟨0, Nat.zero_le _, rfl, rfl, Below.refl _ _⟩
   case round =>
    obtain ⟨k, hk, rfl, d, n⟩ := hrel;obtain ⟨y0, y1, y2, y3, y4, y5, y6, y7, y8⟩ := zAc (zAa n HX.out);by_cases v : k < p.length
    ·have cA : (k : Int) < (p.length : Int) := by omega
     obtain ⟨z, E⟩ : ∃ z, p[k]? = some z := ⟨_, List.getElem?_eq_getElem v⟩;obtain ⟨b, NA, rfl, x0, x1, x2, x3, -⟩ := zEt (KP.out _ (zAb F.out n)) E;cases q : zBN z
     ·have HN : Hid (A = false) := by rw [← O.out]; exact zK0 E q
      have f : Hid _ := n;clear E d n;go_wp2_with (go_at_call 51; refine (zCu _ _ _ _ _).mono ?_; rintro e y ⟨rfl, H⟩; rw [show opB z.1 z.2.1 z.2.2.1 z.2.2.2 = _ from q])
      go_ret
      exact ⟨zA2 (by rw [U.out, HN.out]; rfl), zAb (zAb F.out f.out) H⟩
     ·have HT : Hid ((p.take (k + 1)).all zBN = true) := zI3 d E q;have f : Hid _ := n;clear E d n;go_wp2_with (go_at_call 51; refine (zCu _ _ _ _ _).mono ?_; rintro e y ⟨rfl, H⟩; rw [show opB z.1 z.2.1 z.2.2.1 z.2.2.2 = _ from q])
      go_roundw
      case rel => exact ⟨k + 1, by omega, by go_num, HT.out, zAb f.out H⟩
      case measure => simp [intOf]; omega
    ·have S : k = p.length := by omega
     subst S;rw [List.take_length] at d;have N : A = true := by rw [← O.out]; exact d
     subst N;have f : Hid (Bl w wr) := zAb F.out n;have D : Hid _ := zAa n HX.out;clear d n v hk O;have r : Hid (zAY (c, p, j, 2, u, t) = zB7 u) := by unfold Hid; rw [U.out, Bool.true_and]; unfold zJs; exact if_neg (show ¬ ((2 : Int) = 1) by decide)
     go_wp2_with (go_at_call 52; refine (KL.out _).mono ?_; rintro e y ⟨rfl, H⟩)
     go_ret
     exact ⟨zA2 r.out.symm, zAb f.out H⟩
end Go.Proofs.YtmdhblhdfcocjaaGreatDoor
