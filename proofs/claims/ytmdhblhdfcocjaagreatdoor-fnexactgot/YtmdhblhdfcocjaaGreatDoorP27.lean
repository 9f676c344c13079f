import Derived.Test.YtmdhblhdfcocjaaGreatDoorP00Box
import Derived.Test.YtmdhblhdfcocjaaGreatDoorP26
namespace Go.Proofs.YtmdhblhdfcocjaaGreatDoor
set_option maxHeartbeats 1000000
open Go.ChangeShapes Go.WideShapes Go.ChangeAt Go.RowKit
def zEw (k a x y z : Int) : Bool := opB k a x y && okW z
def zC4 (k a x y z : Int) : Int := if zEw k a x y z then zC0 k x y z else -1
def zC5 (k a x y z : Int) : Int := if zEw k a x y z then zCt k z else -1
theorem op_sum {x z : Int} (hx : okW x = true) (hz : okW z = true) : (0 ≤ x ∧ x ≤ 9999) ∧ 0 ≤ z ∧ z ≤ 9999 := by
 simp [okW, zAP] at hx hz
 omega
theorem opB_kind {k a x y : Int} (h : opB k a x y = true) : zAP k 1 5 = true := by simp [opB] at h; exact h.1
theorem opB_x {k a x y : Int} (h : opB k a x y = true) : okW x = true := by
 simp only [opB, Bool.and_eq_true] at h;have b := h.2.2.1;unfold okW;unfold zDV at b;simp only [zAP, decide_eq_true_eq] at b ⊢;split at b <;> omega
theorem zJ2 (k a x y z : Int) (w : World) :
    Calls Tryz.prog 134 #[.agg #[nI k, nI a, nI x, nI y], nI z] w fun e f => e = .returned (.tuple #[nI (zC4 k a x y z), nI (zC5 k a x y z)]) ∧ Bl w f := by
 have B := (Below.refl w.heap.size w).alloc (Nat.le_refl _);cases L : opB k a x y
 ·have H : Hid (zC4 k a x y z = -1 ∧ zC5 k a x y z = -1) := by unfold Hid zC4 zC5 zEw; simp [L]
  go_enter Tryz.func134, Tryz.ntmps134
  go_wp2_with (first
   | (go_at_call 93; refine (zBS _ _ _ _ _).mono ?_; rintro e N ⟨rfl, d⟩)
   | (go_at_call 153; refine (zBV _ _).mono ?_; rintro e f ⟨rfl, rfl⟩))
  rw [H.out.1, H.out.2];go_ret2
  exact ⟨rfl, zAb (B _) d⟩
 cases M : okW z
 ·have H : Hid (zC4 k a x y z = -1 ∧ zC5 k a x y z = -1) := by unfold Hid zC4 zC5 zEw; simp [M]
  go_enter Tryz.func134, Tryz.ntmps134
  go_wp2_with (first
   | (go_at_call 93; refine (zBS _ _ _ _ _).mono ?_; rintro e N ⟨rfl, d⟩)
   | (go_at_call 153; refine (zBV _ _).mono ?_; rintro e f ⟨rfl, rfl⟩))
  rw [H.out.1, H.out.2];go_ret2
  exact ⟨rfl, zAb (B _) d⟩
 obtain ⟨⟨l, m⟩, j, n⟩ := op_sum (opB_x L) M;rcases zLm (opB_kind L) with rfl | rfl | rfl | rfl | rfl
 ·have H : Hid (zC4 1 a x y z = z ∧ zC5 1 a x y z = z) := by unfold Hid zC4 zC5 zEw; rw [L, M]; exact ⟨rfl, rfl⟩
  have K : Hid (∀ wx : World, Calls Tryz.prog 140 #[.agg #[nI 1, nI a, nI x, nI y], nI z] wx fun e f => e = .returned (nI z) ∧ Bl wx f) := fun wx => by exact zNu _ _ _ _ _ _
  clear l m j n;go_enter Tryz.func134, Tryz.ntmps134
  go_upto_region 3 with (first
   | (go_at_call 93; refine (zBS _ _ _ _ _).mono ?_; rintro e N ⟨rfl, d⟩)
   | (go_at_call 153; refine (zBV _ _).mono ?_; rintro e f ⟨rfl, rfl⟩))
  have R := zAa d (heap_alloc_new w (.cells #[nI 1, nI a, nI x, nI y] 85));replace B := zAb (B _) d;clear d;obtain ⟨s, r, A, J⟩ := zFt R;go_upto_region 4 with (go_at_call 116; refine (zNp _).mono ?_; rintro e c ⟨rfl, b⟩)
  replace R := zAa b R;replace B := zAb B b;clear b s r A J;have E : w.heap.size < c.heap.size := (ltH R);have g := heap_alloc_new c (.cells #[nI 0, nI 0, .func (.func 140) #[] #[], .func (.func 141) #[] #[]] 146);replace R := zAa ((Below.refl _ c).alloc (Nat.le_refl _) (.cells #[nI 0, nI 0, .func (.func 140) #[] #[], .func (.func 141) #[] #[]] 146)) R;replace B := B.alloc B.size (.cells #[nI 0, nI 0, .func (.func 140) #[] #[], .func (.func 141) #[] #[]] 146);generalize c.alloc (.cells #[nI 0, nI 0, .func (.func 140) #[] #[], .func (.func 141) #[] #[]] 146) = W at R B g ⊢;obtain ⟨G, F, I, v⟩ := zDn R;obtain ⟨C, p, o, D⟩ := zDn g;clear R g;go_wp2;refine zA8 (fun wx => Bl W wx) (by kernel_rfl) (by kernel_rfl) ((Below.refl _ W).drew) ?_;intro i
  repeat (quiet_step (first
   | (go_at_call 140; exact zAz (K.out _) (fun f hc bb => zAb hc bb))
   | (go_at_call 141; exact zAS (zCX _ _))))
  refine wpQuiet_nil ?_;intro wx b;clear G F I v C p o D i;go_wp2;rw [H.out.1, H.out.2];go_ret2
  exact ⟨rfl, zAb B b⟩
 ·have H : Hid (zC4 2 a x y z = x ∧ zC5 2 a x y z = 0) := by unfold Hid zC4 zC5 zEw; rw [L, M]; exact ⟨rfl, rfl⟩
  have K : Hid (∀ wx : World, Calls Tryz.prog 142 #[.agg #[nI 2, nI a, nI x, nI y], nI z] wx fun e f => e = .returned (nI x) ∧ Bl wx f) := fun wx => by exact zFU _ _ _ _ _ _
  clear l m j n;go_enter Tryz.func134, Tryz.ntmps134
  go_upto_region 3 with (first
   | (go_at_call 93; refine (zBS _ _ _ _ _).mono ?_; rintro e N ⟨rfl, d⟩)
   | (go_at_call 153; refine (zBV _ _).mono ?_; rintro e f ⟨rfl, rfl⟩))
  have R := zAa d (heap_alloc_new w (.cells #[nI 2, nI a, nI x, nI y] 85));replace B := zAb (B _) d;clear d;obtain ⟨s, r, A, J⟩ := zFt R;go_upto_region 4 with (go_at_call 116; refine (zNq _).mono ?_; rintro e c ⟨rfl, b⟩)
  replace R := zAa b R;replace B := zAb B b;clear b s r A J;have E : w.heap.size < c.heap.size := (ltH R);have g := heap_alloc_new c (.cells #[nI 9999, nI 0, .func (.func 142) #[] #[], .func (.func 143) #[] #[]] 146);replace R := zAa ((Below.refl _ c).alloc (Nat.le_refl _) (.cells #[nI 9999, nI 0, .func (.func 142) #[] #[], .func (.func 143) #[] #[]] 146)) R;replace B := B.alloc B.size (.cells #[nI 9999, nI 0, .func (.func 142) #[] #[], .func (.func 143) #[] #[]] 146);generalize c.alloc (.cells #[nI 9999, nI 0, .func (.func 142) #[] #[], .func (.func 143) #[] #[]] 146) = W at R B g ⊢;obtain ⟨G, F, I, v⟩ := zDn R;obtain ⟨C, p, o, D⟩ := zDn g;clear R g;go_wp2;refine zA8 (fun wx => Bl W wx) (by kernel_rfl) (by kernel_rfl) ((Below.refl _ W).drew) ?_;intro i
  repeat (quiet_step (first
   | (go_at_call 142; exact zAz (K.out _) (fun f hc bb => zAb hc bb))
   | (go_at_call 143; exact zAS (zKz _ _))))
  refine wpQuiet_nil ?_;intro wx b;clear G F I v C p o D i;go_wp2;rw [H.out.1, H.out.2];go_ret2
  exact ⟨rfl, zAb B b⟩
 ·have H : Hid (zC4 3 a x y z = ((z + x) % 10000) ∧ zC5 3 a x y z = z) := by unfold Hid zC4 zC5 zEw; rw [L, M]; exact ⟨rfl, rfl⟩
  generalize O : ((z + x) % 10000) = q at H;have K : Hid (∀ wx : World, Calls Tryz.prog 144 #[.agg #[nI 3, nI a, nI x, nI y], nI z] wx fun e f => e = .returned (nI q) ∧ Bl wx f) := fun wx => by rw [← O]; exact zNv _ _ _ _ _ _ l m j n
  clear O l m j n;go_enter Tryz.func134, Tryz.ntmps134
  go_upto_region 3 with (first
   | (go_at_call 93; refine (zBS _ _ _ _ _).mono ?_; rintro e N ⟨rfl, d⟩)
   | (go_at_call 153; refine (zBV _ _).mono ?_; rintro e f ⟨rfl, rfl⟩))
  have R := zAa d (heap_alloc_new w (.cells #[nI 3, nI a, nI x, nI y] 85));replace B := zAb (B _) d;clear d;obtain ⟨s, r, A, J⟩ := zFt R;go_upto_region 4 with (go_at_call 116; refine (zNr _).mono ?_; rintro e c ⟨rfl, b⟩)
  replace R := zAa b R;replace B := zAb B b;clear b s r A J;have E : w.heap.size < c.heap.size := (ltH R);have g := heap_alloc_new c (.cells #[nI 9999, nI 0, .func (.func 144) #[] #[], .func (.func 141) #[] #[]] 146);replace R := zAa ((Below.refl _ c).alloc (Nat.le_refl _) (.cells #[nI 9999, nI 0, .func (.func 144) #[] #[], .func (.func 141) #[] #[]] 146)) R;replace B := B.alloc B.size (.cells #[nI 9999, nI 0, .func (.func 144) #[] #[], .func (.func 141) #[] #[]] 146);generalize c.alloc (.cells #[nI 9999, nI 0, .func (.func 144) #[] #[], .func (.func 141) #[] #[]] 146) = W at R B g ⊢;obtain ⟨G, F, I, v⟩ := zDn R;obtain ⟨C, p, o, D⟩ := zDn g;clear R g;go_wp2;refine zA8 (fun wx => Bl W wx) (by kernel_rfl) (by kernel_rfl) ((Below.refl _ W).drew) ?_;intro i
  repeat (quiet_step (first
   | (go_at_call 144; exact zAz (K.out _) (fun f hc bb => zAb hc bb))
   | (go_at_call 141; exact zAS (zCX _ _))))
  refine wpQuiet_nil ?_;intro wx b;clear G F I v C p o D i;go_wp2;rw [H.out.1, H.out.2];go_ret2
  exact ⟨rfl, zAb B b⟩
 ·have H : Hid (zC4 4 a x y z = x ∧ zC5 4 a x y z = z) := by unfold Hid zC4 zC5 zEw; rw [L, M]; exact ⟨rfl, rfl⟩
  have K : Hid (∀ wx : World, Calls Tryz.prog 142 #[.agg #[nI 4, nI a, nI x, nI y], nI z] wx fun e f => e = .returned (nI x) ∧ Bl wx f) := fun wx => by exact zFU _ _ _ _ _ _
  clear l m j n;go_enter Tryz.func134, Tryz.ntmps134
  go_upto_region 3 with (first
   | (go_at_call 93; refine (zBS _ _ _ _ _).mono ?_; rintro e N ⟨rfl, d⟩)
   | (go_at_call 153; refine (zBV _ _).mono ?_; rintro e f ⟨rfl, rfl⟩))
  have R := zAa d (heap_alloc_new w (.cells #[nI 4, nI a, nI x, nI y] 85));replace B := zAb (B _) d;clear d;obtain ⟨s, r, A, J⟩ := zFt R;go_upto_region 4 with (go_at_call 116; refine (zNs _).mono ?_; rintro e c ⟨rfl, b⟩)
  replace R := zAa b R;replace B := zAb B b;clear b s r A J;have E : w.heap.size < c.heap.size := (ltH R);have g := heap_alloc_new c (.cells #[nI 9999, nI 0, .func (.func 142) #[] #[], .func (.func 141) #[] #[]] 146);replace R := zAa ((Below.refl _ c).alloc (Nat.le_refl _) (.cells #[nI 9999, nI 0, .func (.func 142) #[] #[], .func (.func 141) #[] #[]] 146)) R;replace B := B.alloc B.size (.cells #[nI 9999, nI 0, .func (.func 142) #[] #[], .func (.func 141) #[] #[]] 146);generalize c.alloc (.cells #[nI 9999, nI 0, .func (.func 142) #[] #[], .func (.func 141) #[] #[]] 146) = W at R B g ⊢;obtain ⟨G, F, I, v⟩ := zDn R;obtain ⟨C, p, o, D⟩ := zDn g;clear R g;go_wp2;refine zA8 (fun wx => Bl W wx) (by kernel_rfl) (by kernel_rfl) ((Below.refl _ W).drew) ?_;intro i
  repeat (quiet_step (first
   | (go_at_call 142; exact zAz (K.out _) (fun f hc bb => zAb hc bb))
   | (go_at_call 141; exact zAS (zCX _ _))))
  refine wpQuiet_nil ?_;intro wx b;clear G F I v C p o D i;go_wp2;rw [H.out.1, H.out.2];go_ret2
  exact ⟨rfl, zAb B b⟩
 ·have H : Hid (zC4 5 a x y z = (if z = x then y else z) ∧ zC5 5 a x y z = z) := by unfold Hid zC4 zC5 zEw; rw [L, M]; exact ⟨rfl, rfl⟩
  generalize O : (if z = x then y else z) = q at H;have K : Hid (∀ wx : World, Calls Tryz.prog 145 #[.agg #[nI 5, nI a, nI x, nI y], nI z] wx fun e f => e = .returned (nI q) ∧ Bl wx f) := fun wx => by rw [← O]; exact zFG _ _ _ _ _ _
  clear O l m j n;go_enter Tryz.func134, Tryz.ntmps134
  go_upto_region 3 with (first
   | (go_at_call 93; refine (zBS _ _ _ _ _).mono ?_; rintro e N ⟨rfl, d⟩)
   | (go_at_call 153; refine (zBV _ _).mono ?_; rintro e f ⟨rfl, rfl⟩))
  have R := zAa d (heap_alloc_new w (.cells #[nI 5, nI a, nI x, nI y] 85));replace B := zAb (B _) d;clear d;obtain ⟨s, r, A, J⟩ := zFt R;go_upto_region 4 with (go_at_call 116; refine (zNt _).mono ?_; rintro e c ⟨rfl, b⟩)
  replace R := zAa b R;replace B := zAb B b;clear b s r A J;have E : w.heap.size < c.heap.size := (ltH R);have g := heap_alloc_new c (.cells #[nI 9999, nI 9999, .func (.func 145) #[] #[], .func (.func 141) #[] #[]] 146);replace R := zAa ((Below.refl _ c).alloc (Nat.le_refl _) (.cells #[nI 9999, nI 9999, .func (.func 145) #[] #[], .func (.func 141) #[] #[]] 146)) R;replace B := B.alloc B.size (.cells #[nI 9999, nI 9999, .func (.func 145) #[] #[], .func (.func 141) #[] #[]] 146);generalize c.alloc (.cells #[nI 9999, nI 9999, .func (.func 145) #[] #[], .func (.func 141) #[] #[]] 146) = W at R B g ⊢;obtain ⟨G, F, I, v⟩ := zDn R;obtain ⟨C, p, o, D⟩ := zDn g;clear R g;go_wp2;refine zA8 (fun wx => Bl W wx) (by kernel_rfl) (by kernel_rfl) ((Below.refl _ W).drew) ?_;intro i
  repeat (quiet_step (first
   | (go_at_call 145; exact zAz (K.out _) (fun f hc bb => zAb hc bb))
   | (go_at_call 141; exact zAS (zCX _ _))))
  refine wpQuiet_nil ?_;intro wx b;clear G F I v C p o D i;go_wp2;rw [H.out.1, H.out.2];go_ret2
  exact ⟨rfl, zAb B b⟩
theorem zMh (w : World) (k : Nat) (h : k = w.heap.size) : zM2 w (w.alloc (.cells #[] 2)) (sL (some ⟨k, 0, none⟩) 0 0) [] := by
 subst h;exact zKQ w #[] [] rfl (Nat.zero_le _)
theorem zK9 (a : Option Addr) (xs : List Int) (cap : Nat) (k u : Int) (w : World) (h : zDF w a xs) :
    Calls Tryz.prog 137 #[sL a xs.length cap, nI k, nI u] w fun e c => ∃ v, e = .returned (.tuple #[v, .bool (putB xs k u)]) ∧ zM2 w c v (zL4 xs k u) := by
 rcases zFh xs with p | ⟨x, y, rfl, j, l⟩
 ·have H : Hid (zL4 xs k u = [] ∧ putB xs k u = false) := by unfold Hid zL4 putB; simp [p]
  go_enter Tryz.func137, Tryz.ntmps137;go_wp2_with fail
  refine (zF8 _ xs _ _ h p).mono ?_;rintro e i ⟨x, y, rfl, b⟩;go_wp2;refine bodyPost_ret (v := .tuple #[sL (some ⟨i.heap.size + 1, 0, none⟩) 0 0, .bool false]) (by simp [results, Tryz.results137, go_sem]) rfl ?_;rw [H.out.1, H.out.2];exact ⟨_, rfl, zD6 (b.alloc b.size _) (zMh _ _ (by simp))⟩
 ·have m := zJK j l;have n : Hid (putB [x, y] k u = (zAP k 0 1 && okW u)) := by unfold Hid putB; simp [m]
  cases d : zAP k 0 1
  ·have H : Hid (zL4 [x, y] k u = [x, y]) := by unfold Hid zL4; simp [d, m]
   go_enter Tryz.func137, Tryz.ntmps137;go_wp2_with fail
   refine (zCA _ x y _ _ h j l).mono ?_;rintro e i ⟨rfl, b⟩
   go_wp2_with (first
    | (go_at_call 154; refine (zCZ _ _).mono ?_; rintro e c ⟨rfl, rfl⟩)
    | (go_at_call 155; refine (zDJ _ _ _).mono ?_; rintro e o ⟨v, rfl, f⟩))
   refine bodyPost_ret (v := .tuple #[v, .bool false]) (by simp [results, Tryz.results137, go_sem]) rfl ?_;rw [H.out, n.out, d, Bool.false_and];exact ⟨_, rfl, zD6 (b.alloc b.size _) f⟩
  ·cases g : okW u
   ·have H : Hid (zL4 [x, y] k u = [x, y]) := by unfold Hid zL4; simp [d, m, g]
    go_enter Tryz.func137, Tryz.ntmps137;go_wp2_with fail
    refine (zCA _ x y _ _ h j l).mono ?_;rintro e i ⟨rfl, b⟩
    go_wp2_with (first
     | (go_at_call 154; refine (zCZ _ _).mono ?_; rintro e c ⟨rfl, rfl⟩)
     | (go_at_call 153; refine (zBV _ _).mono ?_; rintro e c ⟨rfl, rfl⟩)
     | (go_at_call 155; refine (zDJ _ _ _).mono ?_; rintro e o ⟨v, rfl, f⟩))
    refine bodyPost_ret (v := .tuple #[v, .bool false]) (by simp [results, Tryz.results137, go_sem]) rfl ?_;rw [H.out, n.out, g, Bool.and_false];exact ⟨_, rfl, zD6 (b.alloc b.size _) f⟩
   ·rcases zKU d with rfl | rfl
    ·have H : Hid (zL4 [x, y] 0 u = [u, y]) := by unfold Hid zL4; simp [d, m, g]
     go_enter Tryz.func137, Tryz.ntmps137;go_wp2_with fail
     refine (zCA _ x y _ _ h j l).mono ?_;rintro e i ⟨rfl, b⟩
     go_wp2_with (first
      | (go_at_call 154; refine (zCZ _ _).mono ?_; rintro e c ⟨rfl, rfl⟩)
      | (go_at_call 153; refine (zBV _ _).mono ?_; rintro e c ⟨rfl, rfl⟩)
      | (go_at_call 155; refine (zDJ _ _ _).mono ?_; rintro e o ⟨v, rfl, f⟩))
     refine bodyPost_ret (v := .tuple #[v, .bool true]) (by simp [results, Tryz.results137, go_sem]) rfl ?_;rw [H.out, n.out, d, g];exact ⟨_, rfl, zD6 (b.alloc b.size _) f⟩
    ·have H : Hid (zL4 [x, y] 1 u = [x, u]) := by unfold Hid zL4; simp [d, m, g]
     go_enter Tryz.func137, Tryz.ntmps137;go_wp2_with fail
     refine (zCA _ x y _ _ h j l).mono ?_;rintro e i ⟨rfl, b⟩
     go_wp2_with (first
      | (go_at_call 154; refine (zCZ _ _).mono ?_; rintro e c ⟨rfl, rfl⟩)
      | (go_at_call 153; refine (zBV _ _).mono ?_; rintro e c ⟨rfl, rfl⟩)
      | (go_at_call 155; refine (zDJ _ _ _).mono ?_; rintro e o ⟨v, rfl, f⟩))
     refine bodyPost_ret (v := .tuple #[v, .bool true]) (by simp [results, Tryz.results137, go_sem]) rfl ?_;rw [H.out, n.out, d, g];exact ⟨_, rfl, zD6 (b.alloc b.size _) f⟩
set_option linter.unusedVariables false
theorem zFK {o : OpD} (h : zBN o = true) : 0 ≤ o.2.1 ∧ o.2.1 ≤ 31 := (zED h).2.1
theorem zMi (o : OpD) (w : World) (h : zBN o = true) : Calls Tryz.prog 129 #[.agg #[nI o.1, nI o.2.1, nI o.2.2.1, nI o.2.2.2]] w fun e w' => e = .returned (nI (zBe o)) ∧ Bl w w' := by
 obtain ⟨b, h1⟩ := zFK h;have a : Hid (Int.tdiv o.2.1 2 = zBe o) := Int.tdiv_eq_ediv_of_nonneg b;have B := zAf w (.cells #[nI o.1, nI o.2.1, nI o.2.2.1, nI o.2.2.2] 85);go_enter Tryz.func129, Tryz.ntmps129;go_wp2;go_ret
 exact ⟨zAV (by first | exact a.out | rfl | (unfold zBe; omega)), B⟩
theorem zMj (o : OpD) (w : World) (h : zBN o = true) : Calls Tryz.prog 136 #[.agg #[nI o.1, nI o.2.1, nI o.2.2.1, nI o.2.2.2]] w fun e w' => e = .returned (nI (o.2.1 % 2)) ∧ Bl w w' := by
 obtain ⟨b, h1⟩ := zFK h;have a : Hid (Int.tmod o.2.1 2 = o.2.1 % 2) := Int.tmod_eq_emod_of_nonneg b;have B := zAf w (.cells #[nI o.1, nI o.2.1, nI o.2.2.1, nI o.2.2.2] 85);go_enter Tryz.func136, Tryz.ntmps136;go_wp2;go_ret
 exact ⟨zAV (by first | exact a.out | rfl | omega), B⟩
theorem zFW (o : OpD) (w : World) : Calls Tryz.prog 131 #[.agg #[nI o.1, nI o.2.1, nI o.2.2.1, nI o.2.2.2]] w fun e w' => e = .returned (.bool (zCV o)) ∧ Bl w w' := by
 have e : zCV o = (opB o.1 o.2.1 o.2.2.1 o.2.2.2 && o.1 != 1) := by
  unfold zCV zNw zBN;congr 1
  by_cases h : o.1 = 1
  ·simp [h]
  ·simp [h]
 rw [e];exact zHu o.1 o.2.1 o.2.2.1 o.2.2.2 w
theorem zFX (o : OpD) (w : World) : Calls Tryz.prog 85 #[.agg #[nI o.1, nI o.2.1, nI o.2.2.1, nI o.2.2.2]] w fun e w' => e = .returned (.bool (zCV o)) ∧ Bl w w' := by
 have e : zCV o = (opB o.1 o.2.1 o.2.2.1 o.2.2.2 && o.1 != 1) := by
  unfold zCV zNw zBN;congr 1
  by_cases h : o.1 = 1
  ·simp [h]
  ·simp [h]
 rw [e];exact zHv o.1 o.2.1 o.2.2.1 o.2.2.2 w
theorem zKA (o : OpD) (w : World) : Calls Tryz.prog 138 #[.agg #[nI o.1, nI o.2.1, nI o.2.2.1, nI o.2.2.2]] w fun e w' => e = .returned (nI (if zCV o then 2 else 1)) ∧ Bl w w' := by
 have a : Hid (∀ W, Calls Tryz.prog 131 #[.agg #[nI o.1, nI o.2.1, nI o.2.2.1, nI o.2.2.2]] W fun e w' => e = .returned (.bool (zCV o)) ∧ Bl W w') := fun W => zFW o W;generalize zCV o = y at a ⊢;have X := zAx w (.cells #[nI o.1, nI o.2.1, nI o.2.2.1, nI o.2.2.2] 85);have B := zAf w (.cells #[nI o.1, nI o.2.1, nI o.2.2.1, nI o.2.2.2] 85);go_enter Tryz.func138, Tryz.ntmps138;go_wp2_with fail
 refine (a.out _).mono ?_;rintro e w1 ⟨rfl, b⟩;cases y
 all_goals
  go_wp2;go_ret
  exact ⟨rfl, zAb B b⟩
theorem zGW (us : List Value) (u : zAT) (w : World) (hh : HoldT w) (h : zAR.rd w us u) (hs : zAP u.2.1 0 3 = true) : Calls Tryz.prog 122 #[zBh us] w fun e w' => e = .returned (.bool (decide (2 ≤ u.2.1))) ∧ Bl w w' := by
 obtain ⟨b, a, rfl, i1, i2, c, d, g⟩ := zAL h;change Calls Tryz.prog 122 #[.agg #[nI u.1, nI u.2.1, sL b u.2.2.length a]] w _
 have B := zAf w (.cells #[nI u.1, nI u.2.1, sL b u.2.2.length a] 39);have hl := hh.lt;obtain ⟨c0, c1, c2, c3, c4, c5, c6, c7, c8, c9, f, j⟩ := (hh.goes B).cells;clear h c d g;generalize u.2.2.length = n at *;generalize u.2.1 = s at *;rcases zIR hs with rfl | rfl | rfl | rfl
 all_goals
  clear hs;have i : Hid _ := B;clear B;go_enter Tryz.func122, Tryz.ntmps122;go_wp2;go_ret
  exact ⟨rfl, i.out⟩
theorem zGX {x : zAD} (h0 : 0 ≤ x.2.2.1) (h1 : x.2.2.1 < x.2.1.length) : x.2.1[x.2.2.1.toNat]? = some (zBv (toS x)) := by
 have a : x.2.2.1.toNat < x.2.1.length := by omega
 unfold zBv;show _ = some (x.2.1.getD x.2.2.1.toNat (0, 0, 0, 0))
 rw [List.getElem?_eq_getElem a, List.getD_eq_getElem?_getD, List.getElem?_eq_getElem a];rfl
theorem zLr (cs : List Value) (x : zAD) (w : World) (h : zAn.rd w cs x) (h0 : 0 ≤ x.2.2.1) (h1 : x.2.2.1 < x.2.1.length) :
    Calls Tryz.prog 128 #[zBh cs] w fun e w' => e = .returned (.agg #[nI (zBv (toS x)).1, nI (zBv (toS x)).2.1, nI (zBv (toS x)).2.2.1, nI (zBv (toS x)).2.2.2]) ∧ Bl w w' := by
 have m := zGX h0 h1;generalize zBv (toS x) = o at m ⊢;obtain ⟨i, c, v2, k, j, g, d, rfl, L, G, D, I, J, M⟩ := zCs h;obtain ⟨H, f, A, s, y, q⟩ := G;simp only [List.cons.injEq, and_true] at A;obtain rfl := A;have B := zAb (zAf w (.cells #[i, c, sL H x.2.1.length f, nI x.2.2.1, nI x.2.2.2.1, k, j, g, d] 41)) (zAf _ (.cells #[nI 0, nI 0, nI 0, nI 0] 85));obtain ⟨b, a, rfl, p, z, C, r, -⟩ := zEt (zAG q B) m;have X := zAK (.cells #[nI 0, nI 0, nI 0, nI 0] 85) (zAx w (.cells #[i, c, sL (some ⟨b, a, none⟩) x.2.1.length f, nI x.2.2.1, nI x.2.2.2.1, k, j, g, d] 41));have R := zAx (w.alloc (.cells #[i, c, sL (some ⟨b, a, none⟩) x.2.1.length f, nI x.2.2.1, nI x.2.2.2.1, k, j, g, d] 41)) (.cells #[nI 0, nI 0, nI 0, nI 0] 85);rw [zAp] at R;obtain ⟨n, K⟩ : ∃ n : Nat, x.2.2.1 = n := ⟨x.2.2.1.toNat, by omega⟩;rw [K] at h1 p z C r X R B ⊢;have l : (n : Int).toNat = n := by omega
 rw [l] at p z C r;have E : n < x.2.1.length := by omega
 have F : x.2.1.length ≤ 9223372036854775807 := Nat.le_trans s y;clear h L J M s y q m D I h0;change Calls Tryz.prog 128 #[.agg #[i, c, sL (some ⟨b, a, none⟩) x.2.1.length f, nI (n : Int), nI x.2.2.2.1, k, j, g, d]] w _
 obtain ⟨y0, y1, y2, y3, y4, y5, y6, y7, y8⟩ := zAc X;obtain ⟨z0, z1, z2, z3⟩ := zB3 R;have HR : Hid _ := aI R B;have f0 := frozen_of_row _ _ 0 _ _ R;have f1 := frozen_of_row _ _ 1 _ _ R;have f2 := frozen_of_row _ _ 2 _ _ R;have f3 := frozen_of_row _ _ 3 _ _ R;clear X R B;go_enter Tryz.func128, Tryz.ntmps128;go_wp2;refine bodyPost_ret (v := .agg #[nI o.1, nI o.2.1, nI o.2.2.1, nI o.2.2.2]) (by simp [results, Tryz.results128, go_sem]) rfl ⟨rfl, ?_⟩;exact zAb (zAf w _) (zAf _ _)
theorem zEY {w : World} {ops : Array Oper} {rest : List Oper} {o : Oper} {a : Act} {Q : Exit → Act → World → Prop} (hgd : o.guard = none) (s x : Operand)
    (ho : o.op = .call { callee := .builtin .append, args := #[s, x], argTypes := #[23, 23] }) (S : zAW) (v : Value) (xs : List Int) (y : Int) (hy : zBk y) (hs : a.eval s = v) (qb cc : Nat) (hx : a.eval x = sL (some ⟨qb, 0, none⟩) 1 cc) (hq : qb = w.heap.size)
    (h : zA5.own w S [v] xs) (hlen : xs.length ≤ 1000)
    (k : ∀ z c j, zA5.own j (fun k => Old w S k ∨ (w.heap.size ≤ k ∧ k < j.heap.size)) [sL (some ⟨z, 0, none⟩) (xs.length + 1) c] (xs ++ [y]) → Chg (Old w S) w j → wpList Tryz.prog ops Q rest (a.put o.dst (sL (some ⟨z, 0, none⟩) (xs.length + 1) c)) j) :
    wpList Tryz.prog ops Q (o :: rest) a (w.alloc (.cells #[nI y] 2)) := by
 subst hq;obtain ⟨v0, i, S', l, f, -⟩ := zBM h;simp only [List.cons.injEq, and_true] at l;subst l;have r : (w.alloc (.cells #[nI y] 2)).ownsRow 0 2 1 v xs.length i := zEg f fun g hgb => by
  obtain ⟨C, H⟩ := zDg f hgb;have G := (ltH H);rw [Below.heap_alloc _ _ _ G]
 have F : zAX zBC w w [nI y] y := ⟨⟨rfl, hy⟩, Below.refl _ w⟩;obtain ⟨E, L, q, B, A⟩ := info_parts Tryz.infoI
 obtain ⟨v', j, n, b, d, _, m⟩ := run_append_own_at (P := Tryz.prog) (w.alloc (.cells #[nI y] 2)) 0 23 o.type 2 E _ 1 8 Tryz.underlying23 L q B A rfl (by decide) _ _ _ r ⟨w.heap.size, 0, none⟩ 1 cc [nI y] rfl (zL5 w [nI y] 2) (by
  intro u D;simp only [List.mem_singleton] at D;subst D
  rfl) (by unfold maxLen; omega) (by omega) (Nat.zero_le _)
 obtain ⟨J, I⟩ := zKV (e := 2) (R := zBC) (by decide) h F (fun rows hr' => by rw [zES hr' f]; exact b) d (m.imp id fun h => ⟨_, h, by simp⟩);obtain ⟨z, c, rfl⟩ := zF9 b;have p := zA5.own_mono (zBM J) (T := fun k => Old w S k ∨ (w.heap.size ≤ k ∧ k < j.heap.size)) (fun k hk => hk.1.imp id (fun h => ⟨h, hk.2⟩));refine wpList_plain hgd fun K hK => ?_;unfold Oper.wp;simp [execOp, ho, resolve, invoke, builtin, hs, hx, n, Result.andThen]
 exact hK _ _ (k _ _ _ p I)
end Go.Proofs.YtmdhblhdfcocjaaGreatDoor
