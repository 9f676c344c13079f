import Derived.Test.YtoihjejenjcokaaGreatDoorP00Box
import Derived.Test.YtoihjejenjcokaaGreatDoorP21Ops
import Derived.Test.YtoihjejenjcokaaGreatDoorP03OpensBase
import Derived.Test.YtoihjejenjcokaaGreatDoorP26CoreCopy
import Derived.Test.YtoihjejenjcokaaGreatDoorP06MapsV
import Derived.Test.YtoihjejenjcokaaGreatDoorP12Finds
namespace Go.Proofs.YtoihjejenjcokaaGreatDoor
set_option maxHeartbeats 1000000
open Go.ChangeShapes Go.WideShapes Go.ChangeAt Go.RowKit
def zEw (k a x y z : Int) : Bool := opB k a x y && okW z
def zC4 (k a x y z : Int) : Int := if zEw k a x y z then zC0 k x y z else -1
def zC5 (k a x y z : Int) : Int := if zEw k a x y z then zCt k z else -1
theorem op_sum {x z : Int} (hx : okW x = true) (hz : okW z = true) : (0 ≤ x ∧ x ≤ 9999) ∧ 0 ≤ z ∧ z ≤ 9999 := by
 simp [okW, zAQ] at hx hz
 omega
theorem opB_kind {k a x y : Int} (h : opB k a x y = true) : zAQ k 1 5 = true := by simp [opB] at h; exact h.1
theorem opB_x {k a x y : Int} (h : opB k a x y = true) : okW x = true := by
 simp only [opB, Bool.and_eq_true] at h
 have h2 := h.2.2.1
 unfold okW
 unfold zDV at h2
 simp only [zAQ, decide_eq_true_eq] at h2 ⊢
 split at h2 <;> omega
theorem zJ2 (k a x y z : Int) (w : World) :
    Calls Tryz.prog 134 #[.agg #[.int .i64 k, .int .i64 a, .int .i64 x, .int .i64 y], .int .i64 z] w fun e w' => e = .returned (.tuple #[.int .i64 (zC4 k a x y z), .int .i64 (zC5 k a x y z)]) ∧ Below w.heap.size w w' := by
 have B := (Below.refl w.heap.size w).alloc (Nat.le_refl _)
 cases h1 : opB k a x y
 ·have H : Hid (zC4 k a x y z = -1 ∧ zC5 k a x y z = -1) := by unfold Hid zC4 zC5 zEw; simp [h1]
  go_enter Tryz.func134, Tryz.ntmps134
  go_wp2_with (first
   | (go_at_call 93; refine (zBS _ _ _ _ _).mono ?_; rintro e w1 ⟨rfl, b1⟩)
   | (go_at_call 153; refine (zBV _ _).mono ?_; rintro e w' ⟨rfl, rfl⟩))
  rw [H.out.1, H.out.2]
  go_ret2
  exact ⟨rfl, zAb (B _) b1⟩
 cases h2 : okW z
 ·have H : Hid (zC4 k a x y z = -1 ∧ zC5 k a x y z = -1) := by unfold Hid zC4 zC5 zEw; simp [h2]
  go_enter Tryz.func134, Tryz.ntmps134
  go_wp2_with (first
   | (go_at_call 93; refine (zBS _ _ _ _ _).mono ?_; rintro e w1 ⟨rfl, b1⟩)
   | (go_at_call 153; refine (zBV _ _).mono ?_; rintro e w' ⟨rfl, rfl⟩))
  rw [H.out.1, H.out.2]
  go_ret2
  exact ⟨rfl, zAb (B _) b1⟩
 obtain ⟨⟨hx0, hx1⟩, hz0, hz1⟩ := op_sum (opB_x h1) h2
 rcases zLm (opB_kind h1) with rfl | rfl | rfl | rfl | rfl
 ·have H : Hid (zC4 1 a x y z = z ∧ zC5 1 a x y z = z) := by unfold Hid zC4 zC5 zEw; rw [h1, h2]; exact ⟨rfl, rfl⟩
  have K : Hid (∀ wx : World, Calls Tryz.prog 140 #[.agg #[.int .i64 1, .int .i64 a, .int .i64 x, .int .i64 y], .int .i64 z] wx fun e w' => e = .returned (.int .i64 z) ∧ Below wx.heap.size wx w') := fun wx => by exact zNu _ _ _ _ _ _
  clear hx0 hx1 hz0 hz1
  go_enter Tryz.func134, Tryz.ntmps134
  go_upto_region 3 with (first
   | (go_at_call 93; refine (zBS _ _ _ _ _).mono ?_; rintro e w1 ⟨rfl, b1⟩)
   | (go_at_call 153; refine (zBV _ _).mono ?_; rintro e w' ⟨rfl, rfl⟩))
  have R := zAa b1 (heap_alloc_new w (.cells #[.int .i64 1, .int .i64 a, .int .i64 x, .int .i64 y] 85))
  replace B := zAb (B _) b1
  clear b1
  obtain ⟨c0, c1, c2, c3⟩ := zFt R
  go_upto_region 4 with (go_at_call 116; refine (zNp _).mono ?_; rintro e w2 ⟨rfl, b2⟩)
  replace R := zAa b2 R
  replace B := zAb B b2
  clear b2 c0 c1 c2 c3
  have hlt : w.heap.size < w2.heap.size := (Array.getElem?_eq_some_iff.1 R).1
  have R2 := heap_alloc_new w2 (.cells #[.int .i64 0, .int .i64 0, .func (.func 140) #[] #[], .func (.func 141) #[] #[]] 146)
  replace R := zAa ((Below.refl _ w2).alloc (Nat.le_refl _) (.cells #[.int .i64 0, .int .i64 0, .func (.func 140) #[] #[], .func (.func 141) #[] #[]] 146)) R
  replace B := B.alloc B.size (.cells #[.int .i64 0, .int .i64 0, .func (.func 140) #[] #[], .func (.func 141) #[] #[]] 146)
  generalize w2.alloc (.cells #[.int .i64 0, .int .i64 0, .func (.func 140) #[] #[], .func (.func 141) #[] #[]] 146) = W at R B R2 ⊢
  obtain ⟨n0, n1, n2, n3⟩ := zDn R
  obtain ⟨m0, m1, m2, m3⟩ := zDn R2
  clear R R2
  go_wp2
  refine zA8 (fun wx => Below W.heap.size W wx) (by kernel_rfl) (by kernel_rfl) ((Below.refl _ W).drew) ?_
  intro hne
  repeat (quiet_step (first
   | (go_at_call 140; exact zAz (K.out _) (fun w' hc bb => zAb hc bb))
   | (go_at_call 141; exact zAT (zCX _ _))))
  refine wpQuiet_nil ?_
  intro wx b2
  clear n0 n1 n2 n3 m0 m1 m2 m3 hne
  go_wp2
  rw [H.out.1, H.out.2]
  go_ret2
  exact ⟨rfl, zAb B b2⟩
 ·have H : Hid (zC4 2 a x y z = x ∧ zC5 2 a x y z = 0) := by unfold Hid zC4 zC5 zEw; rw [h1, h2]; exact ⟨rfl, rfl⟩
  have K : Hid (∀ wx : World, Calls Tryz.prog 142 #[.agg #[.int .i64 2, .int .i64 a, .int .i64 x, .int .i64 y], .int .i64 z] wx fun e w' => e = .returned (.int .i64 x) ∧ Below wx.heap.size wx w') := fun wx => by exact zFU _ _ _ _ _ _
  clear hx0 hx1 hz0 hz1
  go_enter Tryz.func134, Tryz.ntmps134
  go_upto_region 3 with (first
   | (go_at_call 93; refine (zBS _ _ _ _ _).mono ?_; rintro e w1 ⟨rfl, b1⟩)
   | (go_at_call 153; refine (zBV _ _).mono ?_; rintro e w' ⟨rfl, rfl⟩))
  have R := zAa b1 (heap_alloc_new w (.cells #[.int .i64 2, .int .i64 a, .int .i64 x, .int .i64 y] 85))
  replace B := zAb (B _) b1
  clear b1
  obtain ⟨c0, c1, c2, c3⟩ := zFt R
  go_upto_region 4 with (go_at_call 116; refine (zNq _).mono ?_; rintro e w2 ⟨rfl, b2⟩)
  replace R := zAa b2 R
  replace B := zAb B b2
  clear b2 c0 c1 c2 c3
  have hlt : w.heap.size < w2.heap.size := (Array.getElem?_eq_some_iff.1 R).1
  have R2 := heap_alloc_new w2 (.cells #[.int .i64 9999, .int .i64 0, .func (.func 142) #[] #[], .func (.func 143) #[] #[]] 146)
  replace R := zAa ((Below.refl _ w2).alloc (Nat.le_refl _) (.cells #[.int .i64 9999, .int .i64 0, .func (.func 142) #[] #[], .func (.func 143) #[] #[]] 146)) R
  replace B := B.alloc B.size (.cells #[.int .i64 9999, .int .i64 0, .func (.func 142) #[] #[], .func (.func 143) #[] #[]] 146)
  generalize w2.alloc (.cells #[.int .i64 9999, .int .i64 0, .func (.func 142) #[] #[], .func (.func 143) #[] #[]] 146) = W at R B R2 ⊢
  obtain ⟨n0, n1, n2, n3⟩ := zDn R
  obtain ⟨m0, m1, m2, m3⟩ := zDn R2
  clear R R2
  go_wp2
  refine zA8 (fun wx => Below W.heap.size W wx) (by kernel_rfl) (by kernel_rfl) ((Below.refl _ W).drew) ?_
  intro hne
  repeat (quiet_step (first
   | (go_at_call 142; exact zAz (K.out _) (fun w' hc bb => zAb hc bb))
   | (go_at_call 143; exact zAT (zKz _ _))))
  refine wpQuiet_nil ?_
  intro wx b2
  clear n0 n1 n2 n3 m0 m1 m2 m3 hne
  go_wp2
  rw [H.out.1, H.out.2]
  go_ret2
  exact ⟨rfl, zAb B b2⟩
 ·have H : Hid (zC4 3 a x y z = ((z + x) % 10000) ∧ zC5 3 a x y z = z) := by unfold Hid zC4 zC5 zEw; rw [h1, h2]; exact ⟨rfl, rfl⟩
  generalize hq : ((z + x) % 10000) = q at H
  have K : Hid (∀ wx : World, Calls Tryz.prog 144 #[.agg #[.int .i64 3, .int .i64 a, .int .i64 x, .int .i64 y], .int .i64 z] wx fun e w' => e = .returned (.int .i64 q) ∧ Below wx.heap.size wx w') := fun wx => by rw [← hq]; exact zNv _ _ _ _ _ _ hx0 hx1 hz0 hz1
  clear hq
  clear hx0 hx1 hz0 hz1
  go_enter Tryz.func134, Tryz.ntmps134
  go_upto_region 3 with (first
   | (go_at_call 93; refine (zBS _ _ _ _ _).mono ?_; rintro e w1 ⟨rfl, b1⟩)
   | (go_at_call 153; refine (zBV _ _).mono ?_; rintro e w' ⟨rfl, rfl⟩))
  have R := zAa b1 (heap_alloc_new w (.cells #[.int .i64 3, .int .i64 a, .int .i64 x, .int .i64 y] 85))
  replace B := zAb (B _) b1
  clear b1
  obtain ⟨c0, c1, c2, c3⟩ := zFt R
  go_upto_region 4 with (go_at_call 116; refine (zNr _).mono ?_; rintro e w2 ⟨rfl, b2⟩)
  replace R := zAa b2 R
  replace B := zAb B b2
  clear b2 c0 c1 c2 c3
  have hlt : w.heap.size < w2.heap.size := (Array.getElem?_eq_some_iff.1 R).1
  have R2 := heap_alloc_new w2 (.cells #[.int .i64 9999, .int .i64 0, .func (.func 144) #[] #[], .func (.func 141) #[] #[]] 146)
  replace R := zAa ((Below.refl _ w2).alloc (Nat.le_refl _) (.cells #[.int .i64 9999, .int .i64 0, .func (.func 144) #[] #[], .func (.func 141) #[] #[]] 146)) R
  replace B := B.alloc B.size (.cells #[.int .i64 9999, .int .i64 0, .func (.func 144) #[] #[], .func (.func 141) #[] #[]] 146)
  generalize w2.alloc (.cells #[.int .i64 9999, .int .i64 0, .func (.func 144) #[] #[], .func (.func 141) #[] #[]] 146) = W at R B R2 ⊢
  obtain ⟨n0, n1, n2, n3⟩ := zDn R
  obtain ⟨m0, m1, m2, m3⟩ := zDn R2
  clear R R2
  go_wp2
  refine zA8 (fun wx => Below W.heap.size W wx) (by kernel_rfl) (by kernel_rfl) ((Below.refl _ W).drew) ?_
  intro hne
  repeat (quiet_step (first
   | (go_at_call 144; exact zAz (K.out _) (fun w' hc bb => zAb hc bb))
   | (go_at_call 141; exact zAT (zCX _ _))))
  refine wpQuiet_nil ?_
  intro wx b2
  clear n0 n1 n2 n3 m0 m1 m2 m3 hne
  go_wp2
  rw [H.out.1, H.out.2]
  go_ret2
  exact ⟨rfl, zAb B b2⟩
 ·have H : Hid (zC4 4 a x y z = x ∧ zC5 4 a x y z = z) := by unfold Hid zC4 zC5 zEw; rw [h1, h2]; exact ⟨rfl, rfl⟩
  have K : Hid (∀ wx : World, Calls Tryz.prog 142 #[.agg #[.int .i64 4, .int .i64 a, .int .i64 x, .int .i64 y], .int .i64 z] wx fun e w' => e = .returned (.int .i64 x) ∧ Below wx.heap.size wx w') := fun wx => by exact zFU _ _ _ _ _ _
  clear hx0 hx1 hz0 hz1
  go_enter Tryz.func134, Tryz.ntmps134
  go_upto_region 3 with (first
   | (go_at_call 93; refine (zBS _ _ _ _ _).mono ?_; rintro e w1 ⟨rfl, b1⟩)
   | (go_at_call 153; refine (zBV _ _).mono ?_; rintro e w' ⟨rfl, rfl⟩))
  have R := zAa b1 (heap_alloc_new w (.cells #[.int .i64 4, .int .i64 a, .int .i64 x, .int .i64 y] 85))
  replace B := zAb (B _) b1
  clear b1
  obtain ⟨c0, c1, c2, c3⟩ := zFt R
  go_upto_region 4 with (go_at_call 116; refine (zNs _).mono ?_; rintro e w2 ⟨rfl, b2⟩)
  replace R := zAa b2 R
  replace B := zAb B b2
  clear b2 c0 c1 c2 c3
  have hlt : w.heap.size < w2.heap.size := (Array.getElem?_eq_some_iff.1 R).1
  have R2 := heap_alloc_new w2 (.cells #[.int .i64 9999, .int .i64 0, .func (.func 142) #[] #[], .func (.func 141) #[] #[]] 146)
  replace R := zAa ((Below.refl _ w2).alloc (Nat.le_refl _) (.cells #[.int .i64 9999, .int .i64 0, .func (.func 142) #[] #[], .func (.func 141) #[] #[]] 146)) R
  replace B := B.alloc B.size (.cells #[.int .i64 9999, .int .i64 0, .func (.func 142) #[] #[], .func (.func 141) #[] #[]] 146)
  generalize w2.alloc (.cells #[.int .i64 9999, .int .i64 0, .func (.func 142) #[] #[], .func (.func 141) #[] #[]] 146) = W at R B R2 ⊢
  obtain ⟨n0, n1, n2, n3⟩ := zDn R
  obtain ⟨m0, m1, m2, m3⟩ := zDn R2
  clear R R2
  go_wp2
  refine zA8 (fun wx => Below W.heap.size W wx) (by kernel_rfl) (by kernel_rfl) ((Below.refl _ W).drew) ?_
  intro hne
  repeat (quiet_step (first
   | (go_at_call 142; exact zAz (K.out _) (fun w' hc bb => zAb hc bb))
   | (go_at_call 141; exact zAT (zCX _ _))))
  refine wpQuiet_nil ?_
  intro wx b2
  clear n0 n1 n2 n3 m0 m1 m2 m3 hne
  go_wp2
  rw [H.out.1, H.out.2]
  go_ret2
  exact ⟨rfl, zAb B b2⟩
 ·have H : Hid (zC4 5 a x y z = (if z = x then y else z) ∧ zC5 5 a x y z = z) := by unfold Hid zC4 zC5 zEw; rw [h1, h2]; exact ⟨rfl, rfl⟩
  generalize hq : (if z = x then y else z) = q at H
  have K : Hid (∀ wx : World, Calls Tryz.prog 145 #[.agg #[.int .i64 5, .int .i64 a, .int .i64 x, .int .i64 y], .int .i64 z] wx fun e w' => e = .returned (.int .i64 q) ∧ Below wx.heap.size wx w') := fun wx => by rw [← hq]; exact zFG _ _ _ _ _ _
  clear hq
  clear hx0 hx1 hz0 hz1
  go_enter Tryz.func134, Tryz.ntmps134
  go_upto_region 3 with (first
   | (go_at_call 93; refine (zBS _ _ _ _ _).mono ?_; rintro e w1 ⟨rfl, b1⟩)
   | (go_at_call 153; refine (zBV _ _).mono ?_; rintro e w' ⟨rfl, rfl⟩))
  have R := zAa b1 (heap_alloc_new w (.cells #[.int .i64 5, .int .i64 a, .int .i64 x, .int .i64 y] 85))
  replace B := zAb (B _) b1
  clear b1
  obtain ⟨c0, c1, c2, c3⟩ := zFt R
  go_upto_region 4 with (go_at_call 116; refine (zNt _).mono ?_; rintro e w2 ⟨rfl, b2⟩)
  replace R := zAa b2 R
  replace B := zAb B b2
  clear b2 c0 c1 c2 c3
  have hlt : w.heap.size < w2.heap.size := (Array.getElem?_eq_some_iff.1 R).1
  have R2 := heap_alloc_new w2 (.cells #[.int .i64 9999, .int .i64 9999, .func (.func 145) #[] #[], .func (.func 141) #[] #[]] 146)
  replace R := zAa ((Below.refl _ w2).alloc (Nat.le_refl _) (.cells #[.int .i64 9999, .int .i64 9999, .func (.func 145) #[] #[], .func (.func 141) #[] #[]] 146)) R
  replace B := B.alloc B.size (.cells #[.int .i64 9999, .int .i64 9999, .func (.func 145) #[] #[], .func (.func 141) #[] #[]] 146)
  generalize w2.alloc (.cells #[.int .i64 9999, .int .i64 9999, .func (.func 145) #[] #[], .func (.func 141) #[] #[]] 146) = W at R B R2 ⊢
  obtain ⟨n0, n1, n2, n3⟩ := zDn R
  obtain ⟨m0, m1, m2, m3⟩ := zDn R2
  clear R R2
  go_wp2
  refine zA8 (fun wx => Below W.heap.size W wx) (by kernel_rfl) (by kernel_rfl) ((Below.refl _ W).drew) ?_
  intro hne
  repeat (quiet_step (first
   | (go_at_call 145; exact zAz (K.out _) (fun w' hc bb => zAb hc bb))
   | (go_at_call 141; exact zAT (zCX _ _))))
  refine wpQuiet_nil ?_
  intro wx b2
  clear n0 n1 n2 n3 m0 m1 m2 m3 hne
  go_wp2
  rw [H.out.1, H.out.2]
  go_ret2
  exact ⟨rfl, zAb B b2⟩
theorem zMh (w : World) (k : Nat) (h : k = w.heap.size) : zM2 w (w.alloc (.cells #[] 2)) (.slice (some ⟨k, 0, none⟩) 0 0) [] := by
 subst h
 exact zKQ w #[] [] rfl (Nat.zero_le _)
theorem zK9 (a : Option Addr) (xs : List Int) (cap : Nat) (k u : Int) (w : World) (h : zDF w a xs) :
    Calls Tryz.prog 137 #[.slice a xs.length cap, .int .i64 k, .int .i64 u] w fun e w' => ∃ v, e = .returned (.tuple #[v, .bool (putB xs k u)]) ∧ zM2 w w' v (zL4 xs k u) := by
 rcases zFh xs with hn | ⟨x, y, rfl, hx, hy⟩
 ·have H : Hid (zL4 xs k u = [] ∧ putB xs k u = false) := by unfold Hid zL4 putB; simp [hn]
  go_enter Tryz.func137, Tryz.ntmps137
  go_wp2_with fail
  refine (zF8 _ xs _ _ h hn).mono ?_
  rintro e w1 ⟨x, y, rfl, b1⟩
  go_wp2
  refine bodyPost_ret (v := .tuple #[.slice (some ⟨w1.heap.size + 1, 0, none⟩) 0 0, .bool false]) (by simp [results, Tryz.results137, go_sem]) rfl ?_
  rw [H.out.1, H.out.2]
  exact ⟨_, rfl, zD6 (b1.alloc b1.size _) (zMh _ _ (by simp))⟩
 ·have hh := zJK hx hy
  have HB : Hid (putB [x, y] k u = (zAQ k 0 1 && okW u)) := by unfold Hid putB; simp [hh]
  cases hk : zAQ k 0 1
  ·have H : Hid (zL4 [x, y] k u = [x, y]) := by unfold Hid zL4; simp [hk, hh]
   go_enter Tryz.func137, Tryz.ntmps137
   go_wp2_with fail
   refine (zCA _ x y _ _ h hx hy).mono ?_
   rintro e w1 ⟨rfl, b1⟩
   go_wp2_with (first
    | (go_at_call 154; refine (zCZ _ _).mono ?_; rintro e w' ⟨rfl, rfl⟩)
    | (go_at_call 155; refine (zDJ _ _ _).mono ?_; rintro e w2 ⟨v, rfl, m2⟩))
   refine bodyPost_ret (v := .tuple #[v, .bool false]) (by simp [results, Tryz.results137, go_sem]) rfl ?_
   rw [H.out, HB.out, hk, Bool.false_and]
   exact ⟨_, rfl, zD6 (b1.alloc b1.size _) m2⟩
  ·cases hu : okW u
   ·have H : Hid (zL4 [x, y] k u = [x, y]) := by unfold Hid zL4; simp [hk, hh, hu]
    go_enter Tryz.func137, Tryz.ntmps137
    go_wp2_with fail
    refine (zCA _ x y _ _ h hx hy).mono ?_
    rintro e w1 ⟨rfl, b1⟩
    go_wp2_with (first
     | (go_at_call 154; refine (zCZ _ _).mono ?_; rintro e w' ⟨rfl, rfl⟩)
     | (go_at_call 153; refine (zBV _ _).mono ?_; rintro e w' ⟨rfl, rfl⟩)
     | (go_at_call 155; refine (zDJ _ _ _).mono ?_; rintro e w2 ⟨v, rfl, m2⟩))
    refine bodyPost_ret (v := .tuple #[v, .bool false]) (by simp [results, Tryz.results137, go_sem]) rfl ?_
    rw [H.out, HB.out, hu, Bool.and_false]
    exact ⟨_, rfl, zD6 (b1.alloc b1.size _) m2⟩
   ·rcases zKU hk with rfl | rfl
    ·have H : Hid (zL4 [x, y] 0 u = [u, y]) := by unfold Hid zL4; simp [hk, hh, hu]
     go_enter Tryz.func137, Tryz.ntmps137
     go_wp2_with fail
     refine (zCA _ x y _ _ h hx hy).mono ?_
     rintro e w1 ⟨rfl, b1⟩
     go_wp2_with (first
      | (go_at_call 154; refine (zCZ _ _).mono ?_; rintro e w' ⟨rfl, rfl⟩)
      | (go_at_call 153; refine (zBV _ _).mono ?_; rintro e w' ⟨rfl, rfl⟩)
      | (go_at_call 155; refine (zDJ _ _ _).mono ?_; rintro e w2 ⟨v, rfl, m2⟩))
     refine bodyPost_ret (v := .tuple #[v, .bool true]) (by simp [results, Tryz.results137, go_sem]) rfl ?_
     rw [H.out, HB.out, hk, hu]
     exact ⟨_, rfl, zD6 (b1.alloc b1.size _) m2⟩
    ·have H : Hid (zL4 [x, y] 1 u = [x, u]) := by unfold Hid zL4; simp [hk, hh, hu]
     go_enter Tryz.func137, Tryz.ntmps137
     go_wp2_with fail
     refine (zCA _ x y _ _ h hx hy).mono ?_
     rintro e w1 ⟨rfl, b1⟩
     go_wp2_with (first
      | (go_at_call 154; refine (zCZ _ _).mono ?_; rintro e w' ⟨rfl, rfl⟩)
      | (go_at_call 153; refine (zBV _ _).mono ?_; rintro e w' ⟨rfl, rfl⟩)
      | (go_at_call 155; refine (zDJ _ _ _).mono ?_; rintro e w2 ⟨v, rfl, m2⟩))
     refine bodyPost_ret (v := .tuple #[v, .bool true]) (by simp [results, Tryz.results137, go_sem]) rfl ?_
     rw [H.out, HB.out, hk, hu]
     exact ⟨_, rfl, zD6 (b1.alloc b1.size _) m2⟩
set_option linter.unusedVariables false
theorem zFK {o : OpD} (h : zBN o = true) : 0 ≤ o.2.1 ∧ o.2.1 ≤ 31 := (zED h).2.1
theorem zMi (o : OpD) (w : World) (h : zBN o = true) : Calls Tryz.prog 129 #[.agg #[.int .i64 o.1, .int .i64 o.2.1, .int .i64 o.2.2.1, .int .i64 o.2.2.2]] w fun e w' => e = .returned (.int .i64 (zBf o)) ∧ Below w.heap.size w w' := by
 obtain ⟨h0, h1⟩ := zFK h
 have HT : Hid (Int.tdiv o.2.1 2 = zBf o) := Int.tdiv_eq_ediv_of_nonneg h0
 have B := zAf w (.cells #[.int .i64 o.1, .int .i64 o.2.1, .int .i64 o.2.2.1, .int .i64 o.2.2.2] 85)
 go_enter Tryz.func129, Tryz.ntmps129
 go_wp2
 go_ret
 exact ⟨zAW (by first | exact HT.out | rfl | (unfold zBf; omega)), B⟩
theorem zMj (o : OpD) (w : World) (h : zBN o = true) : Calls Tryz.prog 136 #[.agg #[.int .i64 o.1, .int .i64 o.2.1, .int .i64 o.2.2.1, .int .i64 o.2.2.2]] w fun e w' => e = .returned (.int .i64 (o.2.1 % 2)) ∧ Below w.heap.size w w' := by
 obtain ⟨h0, h1⟩ := zFK h
 have HT : Hid (Int.tmod o.2.1 2 = o.2.1 % 2) := Int.tmod_eq_emod_of_nonneg h0
 have B := zAf w (.cells #[.int .i64 o.1, .int .i64 o.2.1, .int .i64 o.2.2.1, .int .i64 o.2.2.2] 85)
 go_enter Tryz.func136, Tryz.ntmps136
 go_wp2
 go_ret
 exact ⟨zAW (by first | exact HT.out | rfl | omega), B⟩
theorem zFW (o : OpD) (w : World) : Calls Tryz.prog 131 #[.agg #[.int .i64 o.1, .int .i64 o.2.1, .int .i64 o.2.2.1, .int .i64 o.2.2.2]] w fun e w' => e = .returned (.bool (zCV o)) ∧ Below w.heap.size w w' := by
 have e : zCV o = (opB o.1 o.2.1 o.2.2.1 o.2.2.2 && o.1 != 1) := by
  unfold zCV zNw zBN
  congr 1
  by_cases h : o.1 = 1
  ·simp [h]
  ·simp [h]
 rw [e]
 exact zHu o.1 o.2.1 o.2.2.1 o.2.2.2 w
theorem zFX (o : OpD) (w : World) : Calls Tryz.prog 85 #[.agg #[.int .i64 o.1, .int .i64 o.2.1, .int .i64 o.2.2.1, .int .i64 o.2.2.2]] w fun e w' => e = .returned (.bool (zCV o)) ∧ Below w.heap.size w w' := by
 have e : zCV o = (opB o.1 o.2.1 o.2.2.1 o.2.2.2 && o.1 != 1) := by
  unfold zCV zNw zBN
  congr 1
  by_cases h : o.1 = 1
  ·simp [h]
  ·simp [h]
 rw [e]
 exact zHv o.1 o.2.1 o.2.2.1 o.2.2.2 w
theorem zKA (o : OpD) (w : World) : Calls Tryz.prog 138 #[.agg #[.int .i64 o.1, .int .i64 o.2.1, .int .i64 o.2.2.1, .int .i64 o.2.2.2]] w fun e w' => e = .returned (.int .i64 (if zCV o then 2 else 1)) ∧ Below w.heap.size w w' := by
 have HW : Hid (∀ W, Calls Tryz.prog 131 #[.agg #[.int .i64 o.1, .int .i64 o.2.1, .int .i64 o.2.2.1, .int .i64 o.2.2.2]] W fun e w' => e = .returned (.bool (zCV o)) ∧ Below W.heap.size W w') := fun W => zFW o W
 generalize zCV o = y at HW ⊢
 have X := zAy w (.cells #[.int .i64 o.1, .int .i64 o.2.1, .int .i64 o.2.2.1, .int .i64 o.2.2.2] 85)
 have B := zAf w (.cells #[.int .i64 o.1, .int .i64 o.2.1, .int .i64 o.2.2.1, .int .i64 o.2.2.2] 85)
 go_enter Tryz.func138, Tryz.ntmps138
 go_wp2_with fail
 refine (HW.out _).mono ?_
 rintro e w1 ⟨rfl, b1⟩
 cases y
 all_goals
  go_wp2
  go_ret
  exact ⟨rfl, zAb B b1⟩
theorem zGW (us : List Value) (u : zAU) (w : World) (hh : Hold w) (h : zAS.rd w us u) (hs : zAQ u.2.1 0 3 = true) : Calls Tryz.prog 122 #[zAM us] w fun e w' => e = .returned (.bool (decide (2 ≤ u.2.1))) ∧ Below w.heap.size w w' := by
 obtain ⟨ad, cpw, rfl, i1, i2, k1, k2, k3⟩ := zAL h
 change Calls Tryz.prog 122 #[.agg #[.int .i64 u.1, .int .i64 u.2.1, .slice ad u.2.2.length cpw]] w _
 have B := zAf w (.cells #[.int .i64 u.1, .int .i64 u.2.1, .slice ad u.2.2.length cpw] 39)
 have hl := hh.lt
 obtain ⟨c0, c1, c2, c3, c4, c5, c6, c7, c8, c9, c10, c11⟩ := (hh.goes B).cells
 clear h k1 k2 k3
 generalize u.2.2.length = n at *
 generalize u.2.1 = s at *
 rcases zIQ hs with rfl | rfl | rfl | rfl
 all_goals
  clear hs
  have HB : Hid _ := B
  clear B
  go_enter Tryz.func122, Tryz.ntmps122
  go_wp2
  go_ret
  exact ⟨rfl, HB.out⟩
theorem zGX {x : zAE} (h0 : 0 ≤ x.2.2.1) (h1 : x.2.2.1 < x.2.1.length) : x.2.1[x.2.2.1.toNat]? = some (zBv (toS x)) := by
 have hl : x.2.2.1.toNat < x.2.1.length := by omega
 unfold zBv
 show _ = some (x.2.1.getD x.2.2.1.toNat (0, 0, 0, 0))
 rw [List.getElem?_eq_getElem hl, List.getD_eq_getElem?_getD, List.getElem?_eq_getElem hl]
 rfl
theorem zLr (cs : List Value) (x : zAE) (w : World) (h : zAn.rd w cs x) (h0 : 0 ≤ x.2.2.1) (h1 : x.2.2.1 < x.2.1.length) :
    Calls Tryz.prog 128 #[zAM cs] w fun e w' => e = .returned (.agg #[.int .i64 (zBv (toS x)).1, .int .i64 (zBv (toS x)).2.1, .int .i64 (zBv (toS x)).2.2.1, .int .i64 (zBv (toS x)).2.2.2]) ∧ Below w.heap.size w w' := by
 have ho := zGX h0 h1
 generalize zBv (toS x) = o at ho ⊢
 obtain ⟨v0, v1, v2, v5, v6, v7, v8, rfl, r0, r1, i2, i3, r4, r5⟩ := zCs h
 obtain ⟨a1, c1, e1, k1, k2, q⟩ := r1
 simp only [List.cons.injEq, and_true] at e1
 obtain rfl := e1
 have B := zAb (zAf w (.cells #[v0, v1, .slice a1 x.2.1.length c1, .int .i64 x.2.2.1, .int .i64 x.2.2.2.1, v5, v6, v7, v8] 41)) (zAf _ (.cells #[.int .i64 0, .int .i64 0, .int .i64 0, .int .i64 0] 85))
 obtain ⟨b, off, rfl, x0, x1, x2, x3, -⟩ := zEt (zAG q B) ho
 have X := zAK (.cells #[.int .i64 0, .int .i64 0, .int .i64 0, .int .i64 0] 85) (zAy w (.cells #[v0, v1, .slice (some ⟨b, off, none⟩) x.2.1.length c1, .int .i64 x.2.2.1, .int .i64 x.2.2.2.1, v5, v6, v7, v8] 41))
 have R := zAy (w.alloc (.cells #[v0, v1, .slice (some ⟨b, off, none⟩) x.2.1.length c1, .int .i64 x.2.2.1, .int .i64 x.2.2.2.1, v5, v6, v7, v8] 41)) (.cells #[.int .i64 0, .int .i64 0, .int .i64 0, .int .i64 0] 85)
 rw [zAp] at R
 obtain ⟨n, hn⟩ : ∃ n : Nat, x.2.2.1 = n := ⟨x.2.2.1.toNat, by omega⟩
 rw [hn] at h1 x0 x1 x2 x3 X R B ⊢
 have hn' : (n : Int).toNat = n := by omega
 rw [hn'] at x0 x1 x2 x3
 have hn2 : n < x.2.1.length := by omega
 have h63 : x.2.1.length ≤ 9223372036854775807 := Nat.le_trans k1 k2
 clear h r0 r4 r5 k1 k2 q ho i2 i3 h0
 change Calls Tryz.prog 128 #[.agg #[v0, v1, .slice (some ⟨b, off, none⟩) x.2.1.length c1, .int .i64 (n : Int), .int .i64 x.2.2.2.1, v5, v6, v7, v8]] w _
 obtain ⟨y0, y1, y2, y3, y4, y5, y6, y7, y8⟩ := zAc X
 obtain ⟨z0, z1, z2, z3⟩ := zB3 R
 have HR : Hid _ := And.intro R B
 have f0 := frozen_of_row _ _ 0 _ _ R
 have f1 := frozen_of_row _ _ 1 _ _ R
 have f2 := frozen_of_row _ _ 2 _ _ R
 have f3 := frozen_of_row _ _ 3 _ _ R
 clear X R B
 go_enter Tryz.func128, Tryz.ntmps128
 go_wp2
 refine bodyPost_ret (v := .agg #[.int .i64 o.1, .int .i64 o.2.1, .int .i64 o.2.2.1, .int .i64 o.2.2.2]) (by simp [results, Tryz.results128, go_sem]) rfl ⟨rfl, ?_⟩
 exact zAb (zAf w _) (zAf _ _)
theorem zEY {w : World} {ops : Array Oper} {rest : List Oper} {o : Oper} {a : Act} {Q : Exit → Act → World → Prop} (hgd : o.guard = none) (s x : Operand)
    (ho : o.op = .call { callee := .builtin .append, args := #[s, x], argTypes := #[23, 23] }) (S : zAX) (v : Value) (xs : List Int) (y : Int) (hy : zBk y) (hs : a.eval s = v) (qb cc : Nat) (hx : a.eval x = .slice (some ⟨qb, 0, none⟩) 1 cc) (hq : qb = w.heap.size)
    (h : zA5.own w S [v] xs) (hlen : xs.length ≤ 1000)
    (k : ∀ g' cap' w2, zA5.own w2 (fun k => Old w S k ∨ (w.heap.size ≤ k ∧ k < w2.heap.size)) [.slice (some ⟨g', 0, none⟩) (xs.length + 1) cap'] (xs ++ [y]) → Chg (Old w S) w w2 → wpList Tryz.prog ops Q rest (a.put o.dst (.slice (some ⟨g', 0, none⟩) (xs.length + 1) cap')) w2) :
    wpList Tryz.prog ops Q (o :: rest) a (w.alloc (.cells #[.int .i64 y] 2)) := by
 subst hq
 obtain ⟨v0, rows0, S', hv0, hr0, -⟩ := zBM h
 simp only [List.cons.injEq, and_true] at hv0
 subst hv0
 have hrA : (w.alloc (.cells #[.int .i64 y] 2)).ownsRow 0 2 1 v xs.length rows0 := zEg hr0 fun g hgb => by
  obtain ⟨cur', hh⟩ := zDg hr0 hgb
  have hl := (Array.getElem?_eq_some_iff.1 hh).1
  rw [Below.heap_alloc _ _ _ hl]
 have MM : zAY zBC w w [.int .i64 y] y := ⟨⟨rfl, hy⟩, Below.refl _ w⟩
 obtain ⟨i0, hi, hz0, hz1, hz2⟩ := info_parts Tryz.infoI
 obtain ⟨v', w2, hrun, hown', hgrow, _, hblk⟩ := run_append_own_at (P := Tryz.prog) (w.alloc (.cells #[.int .i64 y] 2)) 0 23 o.type 2 i0 _ 1 8 Tryz.underlying23 hi hz0 hz1 hz2 rfl (by decide) _ _ _ hrA ⟨w.heap.size, 0, none⟩ 1 cc [.int .i64 y] rfl (zL5 w [.int .i64 y] 2) (by
  intro u hu
  simp only [List.mem_singleton] at hu
  subst hu
  rfl) (by unfold maxLen; omega) (by omega) (Nat.zero_le _)
 obtain ⟨NO, NC⟩ := zKV (e := 2) (R := zBC) (by decide) h MM (fun rows hr' => by rw [zES hr' hr0]; exact hown') hgrow (hblk.imp id fun h => ⟨_, h, by simp⟩)
 obtain ⟨g', cap', rfl⟩ := zF9 hown'
 have NO2 := zA5.own_mono (zBM NO) (T := fun k => Old w S k ∨ (w.heap.size ≤ k ∧ k < w2.heap.size)) (fun k hk => hk.1.imp id (fun h => ⟨h, hk.2⟩))
 refine wpList_plain hgd fun K hK => ?_
 unfold Oper.wp
 simp [execOp, ho, resolve, invoke, builtin, hs, hx, hrun, Result.andThen]
 exact hK _ _ (k _ _ _ NO2 NC)
end Go.Proofs.YtoihjejenjcokaaGreatDoor
