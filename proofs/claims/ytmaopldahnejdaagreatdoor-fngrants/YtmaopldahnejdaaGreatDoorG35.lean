import Derived.Test.YtmaopldahnejdaaGreatDoorG00Box
import Derived.Test.YtmaopldahnejdaaGreatDoorG33
import Derived.Test.YtmaopldahnejdaaGreatDoorG34
import Derived.Test.YtmaopldahnejdaaGreatDoorG29
import Derived.Test.YtmaopldahnejdaaGreatDoorG26
import Derived.Test.YtmaopldahnejdaaGreatDoorG31
namespace Go.Proofs.YtmaopldahnejdaaGreatDoor
set_option maxHeartbeats 4000000
set_option maxRecDepth 20000
open Go.ChangeShapes Go.WideShapes Go.ChangeAt Go.RowKit
set_option linter.unusedVariables false
set_option linter.unusedSimpArgs false
theorem zI9 {X : Prop} {P : Program} {a : Act} {w : World} (h : X) (_ : wpAny P .any #[] (fun _ _ _ => True) 0 #[] a w) : X := h
theorem zGo (k : Int) (a : zB0) (ds : List Value) (S : zAN) (w : World) (h : zBM.own w S ds a) (hS : ∀ j, S j → j < w.heap.size) (m : zAS) (ma : Option Addr) (mc : Nat) (hd : zBv zBf w ma m.2.2.2.2.2.1) (hn : zFL a.2 m.2.1 = false) :
    Calls Tryz.prog 119 #[zBw (nI k :: ds), .agg #[nI m.1, nI m.2.1, nI m.2.2.1, nI m.2.2.2.1, nI m.2.2.2.2.1, sL ma m.2.2.2.2.2.1.length mc, nI m.2.2.2.2.2.2]] w fun e w' => e = .panicked [{ v := .iface 101 (nI 0), recovered := false }] ∧ Bl w w' := by
 obtain ⟨V, wc, E, F, G, H, rfl, O, J, T, N, K, R⟩ := zA9 h;have HI : Hid _ := O;have H1 : Hid (∀ W, Bl w W → zAm.own W G [sL V a.1.length wc] a.1) := fun W D => zAm.own_keep J (zAj D);have H2 : Hid (∀ W, Bl w W → zAm.own W H [sL E a.2.2.2.2.2.2.2.2.length F] a.2.2.2.2.2.2.2.2) := fun W D => zAm.own_keep T (zAj D);have Y : Hid (∀ j, S j → j < w.heap.size) := hS;have HS : Hid (Sub G S ∧ Sub H S ∧ Dis G H) := ⟨N, K, R⟩;clear h hS O J T N K R hd;change Calls Tryz.prog 119 #[.agg #[nI k, sL V a.1.length wc, nI a.2.1, nI a.2.2.1, .bool a.2.2.2.1, nI a.2.2.2.2.1, nI a.2.2.2.2.2.1, nI a.2.2.2.2.2.2.1, nI a.2.2.2.2.2.2.2.1, sL E a.2.2.2.2.2.2.2.2.length F], .agg #[nI m.1, nI m.2.1, nI m.2.2.1, nI m.2.2.2.1, nI m.2.2.2.2.1, sL ma m.2.2.2.2.2.1.length mc, nI m.2.2.2.2.2.2]] w _
 cases D : a.2.2.2.1
 ·clear hn;have B := Below.refl w.heap.size w;go_enter Tryz.func119, Tryz.ntmps119;go_upto_region 1 with fail
  generalize c : w.alloc _ = u1w;have X := boxH c;have f := boxB c;have g := boxL c;clear c;rw [show w.heap.size = w.heap.size from by omega] at X;replace B := zAa B f;clear f;have y := lE g;have p := lE g.symm;clear g;generalize d : u1w.alloc _ = u2w;have M := boxH d;have f := boxB d;have i := boxL d;clear d;rw [show u1w.heap.size = w.heap.size + 1 from by omega] at M;replace B := zAa B f;replace X := zAb f X;clear f;have s := lE i;have C := lE i.symm;clear i;generalize b : u2w.alloc _ = u3w;have Z := boxH b;have f := boxB b;have n := boxL b;clear b;rw [show u2w.heap.size = w.heap.size + 1 + 1 from by omega] at Z;replace B := zAa B f;replace X := zAb f X;replace M := zAb f M;clear f;have z := lE n;have A := lE n.symm;clear n;obtain ⟨Xc0, Xc1, Xc2, Xc3, Xc4, Xc5, Xc6, Xc7, Xc8, Xc9⟩ := zAc X;have Xlt := (ltH X);obtain ⟨Mc0, Mc1, Mc2, Mc3, Mc4, Mc5, Mc6⟩ := zAe M;have Mlt := (ltH M);obtain ⟨Zc0, Zc1, Zc2, Zc3, Zc4, Zc5, Zc6, Zc7, Zc8, Zc9⟩ := zAc Z;have Zlt := (ltH Z);replace B := B.drew;first | (go_region_with (first | (go_at_call 86; refine (zBU _ _).mono ?_; rintro e r ⟨rfl, o⟩; rw [o]; clear o r; refine zI9 (P := Tryz.prog) (a := { tmps := #[], defers := [] }) (w := w) (aI rfl (aI rfl B)) ?_) | fail)) | fail
  all_goals exact trivial
 ·by_cases U : 0 < a.2.2.2.2.2.2.1
  ·have L : decide (0 < a.2.2.2.2.2.2.1) = true := decide_eq_true U;have I : zEH a.2.1 a.2.2.1 m.2.1 = false := by
    unfold zFL at hn;rw [D, L] at hn;exact hn
   have HO : Hid (∀ W, Calls Tryz.prog 106 #[.agg #[nI a.2.2.1, nI a.2.1], nI m.2.1] W fun e w' => e = .returned (.bool false) ∧ Bl W w') := fun W => by have q := zGb a.2.1 a.2.2.1 m.2.1 W; rw [I] at q; exact q
   clear hn I;have B := Below.refl w.heap.size w;go_enter Tryz.func119, Tryz.ntmps119;go_upto_region 1 with fail
   generalize c : w.alloc _ = u1w;have X := boxH c;have f := boxB c;have g := boxL c;clear c;rw [show w.heap.size = w.heap.size from by omega] at X;replace B := zAa B f;clear f;have y := lE g;have p := lE g.symm;clear g;generalize d : u1w.alloc _ = u2w;have M := boxH d;have f := boxB d;have i := boxL d;clear d;rw [show u1w.heap.size = w.heap.size + 1 from by omega] at M;replace B := zAa B f;replace X := zAb f X;clear f;have s := lE i;have C := lE i.symm;clear i;generalize b : u2w.alloc _ = u3w;have Z := boxH b;have f := boxB b;have n := boxL b;clear b;rw [show u2w.heap.size = w.heap.size + 1 + 1 from by omega] at Z;replace B := zAa B f;replace X := zAb f X;replace M := zAb f M;clear f;have z := lE n;have A := lE n.symm;clear n;obtain ⟨Xc0, Xc1, Xc2, Xc3, Xc4, Xc5, Xc6, Xc7, Xc8, Xc9⟩ := zAc X;have Xlt := (ltH X);obtain ⟨Mc0, Mc1, Mc2, Mc3, Mc4, Mc5, Mc6⟩ := zAe M;have Mlt := (ltH M);obtain ⟨Zc0, Zc1, Zc2, Zc3, Zc4, Zc5, Zc6, Zc7, Zc8, Zc9⟩ := zAc Z;have Zlt := (ltH Z);replace B := B.drew;first | (go_region_with (first | (go_at_call 86; refine (zBU _ _).mono ?_; rintro e r ⟨rfl, o⟩; rw [o]; clear o r; refine zI9 (P := Tryz.prog) (a := { tmps := #[], defers := [] }) (w := w) (aI rfl (aI rfl B)) ?_) | (go_at_call 105; refine (zCx a.2.1 a.2.2.1 a.2.2.2.2.1 a.2.2.2.2.2.1 a.2.2.2.2.2.2.1 a.2.2.2.2.2.2.2.1 true (sL E a.2.2.2.2.2.2.2.2.length F) _).mono ?_; rintro e aA ⟨rfl, l⟩; clear Xc0 Xc1 Xc2 Xc3 Xc4 Xc5 Xc6 Xc7 Xc8 Xc9 Xlt Mc0 Mc1 Mc2 Mc3 Mc4 Mc5 Mc6 Mlt Zc0 Zc1 Zc2 Zc3 Zc4 Zc5 Zc6 Zc7 Zc8 Zc9 Zlt; replace B := zAa B l; replace X := zAb l X; replace M := zAb l M; replace Z := zAb l Z; clear l; obtain ⟨Xc0, Xc1, Xc2, Xc3, Xc4, Xc5, Xc6, Xc7, Xc8, Xc9⟩ := zAc X; have Xlt := (ltH X); obtain ⟨Mc0, Mc1, Mc2, Mc3, Mc4, Mc5, Mc6⟩ := zAe M; have Mlt := (ltH M); obtain ⟨Zc0, Zc1, Zc2, Zc3, Zc4, Zc5, Zc6, Zc7, Zc8, Zc9⟩ := zAc Z; have Zlt := (ltH Z)) | (go_at_call 106; refine (HO.out _).mono ?_; rintro e bA ⟨rfl, l⟩; clear Xc0 Xc1 Xc2 Xc3 Xc4 Xc5 Xc6 Xc7 Xc8 Xc9 Xlt Mc0 Mc1 Mc2 Mc3 Mc4 Mc5 Mc6 Mlt Zc0 Zc1 Zc2 Zc3 Zc4 Zc5 Zc6 Zc7 Zc8 Zc9 Zlt; replace B := zAa B l; replace X := zAb l X; replace M := zAb l M; replace Z := zAb l Z; clear l; obtain ⟨Xc0, Xc1, Xc2, Xc3, Xc4, Xc5, Xc6, Xc7, Xc8, Xc9⟩ := zAc X; have Xlt := (ltH X); obtain ⟨Mc0, Mc1, Mc2, Mc3, Mc4, Mc5, Mc6⟩ := zAe M; have Mlt := (ltH M); obtain ⟨Zc0, Zc1, Zc2, Zc3, Zc4, Zc5, Zc6, Zc7, Zc8, Zc9⟩ := zAc Z; have Zlt := (ltH Z)) | fail)) | fail
   all_goals exact trivial
  ·have L : decide (0 < a.2.2.2.2.2.2.1) = false := decide_eq_false U;clear hn;have B := Below.refl w.heap.size w;go_enter Tryz.func119, Tryz.ntmps119;go_upto_region 1 with fail
   generalize c : w.alloc _ = u1w;have X := boxH c;have f := boxB c;have g := boxL c;clear c;rw [show w.heap.size = w.heap.size from by omega] at X;replace B := zAa B f;clear f;have y := lE g;have p := lE g.symm;clear g;generalize d : u1w.alloc _ = u2w;have M := boxH d;have f := boxB d;have i := boxL d;clear d;rw [show u1w.heap.size = w.heap.size + 1 from by omega] at M;replace B := zAa B f;replace X := zAb f X;clear f;have s := lE i;have C := lE i.symm;clear i;generalize b : u2w.alloc _ = u3w;have Z := boxH b;have f := boxB b;have n := boxL b;clear b;rw [show u2w.heap.size = w.heap.size + 1 + 1 from by omega] at Z;replace B := zAa B f;replace X := zAb f X;replace M := zAb f M;clear f;have z := lE n;have A := lE n.symm;clear n;obtain ⟨Xc0, Xc1, Xc2, Xc3, Xc4, Xc5, Xc6, Xc7, Xc8, Xc9⟩ := zAc X;have Xlt := (ltH X);obtain ⟨Mc0, Mc1, Mc2, Mc3, Mc4, Mc5, Mc6⟩ := zAe M;have Mlt := (ltH M);obtain ⟨Zc0, Zc1, Zc2, Zc3, Zc4, Zc5, Zc6, Zc7, Zc8, Zc9⟩ := zAc Z;have Zlt := (ltH Z);replace B := B.drew;first | (go_region_with (first | (go_at_call 86; refine (zBU _ _).mono ?_; rintro e r ⟨rfl, o⟩; rw [o]; clear o r; refine zI9 (P := Tryz.prog) (a := { tmps := #[], defers := [] }) (w := w) (aI rfl (aI rfl B)) ?_) | fail)) | fail
   all_goals exact trivial
theorem zBi {a : zB0} {m : zAS} {n : Int} (hk : zBL m.2.2.2.1 = n) (hp : 0 < n) : zBd a m = if zDv n m then (if a.2.2.2.1 then some 2 else none) else some 0 := by unfold zBd; rw [hk, if_pos hp]
theorem zDf {a : zB0} {m : zAS} {k n : Int} (hk : zBL m.2.2.2.1 = n) (hp : 0 < n) : zBm k a m = zGz n k a m := by unfold zBm; rw [hk, if_pos hp]
theorem zHK {a : zB0} {m : zAS} (q : m.2.2.2.1 = 3) : zBd a m = if zA6 m.2.1 0 3 then (if a.2.2.2.1 then some 2 else none) else some 0 := by unfold zBd; rw [q]; rfl
theorem zJK {a : zB0} {m : zAS} {k : Int} (q : m.2.2.2.1 = 3) : zBm k a m = zDd k a m := by unfold zBm; rw [q]; rfl
theorem zEZ {a : zB0} {m : zAS} (q : m.2.2.2.1 = 8 ∨ m.2.2.2.1 = 9) : zBd a m = if zFL a.2 m.2.1 then none else some 0 := by unfold zBd; rcases q with q | q <;> rw [q] <;> rfl
theorem zHL {a : zB0} {m : zAS} {k : Int} (q : m.2.2.2.1 = 8 ∨ m.2.2.2.1 = 9) : zBm k a m = zIn k a m := by unfold zBm; rcases q with q | q <;> rw [q] <;> rfl
theorem zIA {a : zB0} {m : zAS} (q : m.2.2.2.1 = 10) : zBd a m = if zDw a.2 m.2.1 then none else some 0 := by unfold zBd; rw [q]; rfl
theorem zIB {a : zB0} {m : zAS} {k : Int} (q : m.2.2.2.1 = 10) : zBm k a m = ((a.1, zCD a.2), []) := by unfold zBm; rw [q]; rfl
theorem zGp {a : zB0} {m : zAS} (h1 : m.2.2.2.1 ≠ 1) (h2 : m.2.2.2.1 ≠ 2) (h4 : m.2.2.2.1 ≠ 4) (h5 : m.2.2.2.1 ≠ 5) (h3 : m.2.2.2.1 ≠ 3) (h8 : m.2.2.2.1 ≠ 8) (h9 : m.2.2.2.1 ≠ 9) (h10 : m.2.2.2.1 ≠ 10) : zBd a m = some 0 := by
 have b : zBL m.2.2.2.1 = 0 := by unfold zBL; rw [if_neg h1, if_neg h2, if_neg h4, if_neg h5]
 unfold zBd;rw [b, if_neg (by decide), if_neg h3, if_neg (by omega), if_neg h10]
theorem hear_any (k : Int) (a : zB0) (ds : List Value) (S : zAN) (w : World) (h : zBM.own w S ds a) (hS : ∀ j, S j → j < w.heap.size) (m : zAS) (ma : Option Addr) (mc : Nat) (hd : zBv zBf w ma m.2.2.2.2.2.1) (hm : m.2.2.2.2.2.1.length ≤ 1048576) (hk : zA4 k) (hw2 : a.1.length ≤ 1048576) (hd2 : a.2.2.2.2.2.2.2.2.length ≤ 1048576) (he : zBR a.2 = true) (hf64 : zA4 m.2.1) (hg64 : zA4 m.2.2.2.2.2.2) (hh : HoldT w) (hs : zBd a m = none) :
    Calls Tryz.prog 89 #[zBw (nI k :: ds), .agg #[nI m.1, nI m.2.1, nI m.2.2.1, nI m.2.2.2.1, nI m.2.2.2.2.1, sL ma m.2.2.2.2.2.1.length mc, nI m.2.2.2.2.2.2]] w fun e w' => zC2 w S k (zBm k a m).1 (zBm k a m).2 e w' := by
 have n : ∀ W, Bl w W → zBM.own W S ds a ∧ (∀ j, S j → j < W.heap.size) ∧ zBv zBf W ma m.2.2.2.2.2.1 ∧ HoldT W := fun W hb => ⟨zBM.own_keep h (zAj hb), fun j q => Nat.lt_of_lt_of_le (hS j q) hb.size, zAt hd hb, HoldT.goes hh hb⟩;by_cases q : m.2.2.2.1 = 1
 ·have d : zBL m.2.2.2.1 = 1 := by rw [q]; rfl
  rw [zBi d (by decide)] at hs;cases b : zDv 1 m
  ·rw [b, if_neg (by decide)] at hs; cases hs
  cases c : a.2.2.2.1
  ·rw [zDf d (by decide)];exact hear_go1 k a ds S w h hS m ma mc (by rw [q]; rfl) _ _ fun W hb => by obtain ⟨g, f, i, l⟩ := n W hb; exact zDe k a ds S W g f 1 m ma mc i hm hk hw2 hd2 b c he (by constructor <;> decide) hf64 hg64 l
  ·rw [b, c, if_pos rfl, if_pos rfl] at hs; cases hs
 have p1 : (m.2.2.2.1 == 1) = false := by simp [q]
 have y := q;clear q;by_cases q : m.2.2.2.1 = 2
 ·have d : zBL m.2.2.2.1 = 2 := by rw [q]; rfl
  rw [zBi d (by decide)] at hs;cases b : zDv 2 m
  ·rw [b, if_neg (by decide)] at hs; cases hs
  cases c : a.2.2.2.1
  ·rw [zDf d (by decide)];exact hear_go2 k a ds S w h hS m ma mc (by rw [q]; rfl) (by rw [q]; rfl) _ _ fun W hb => by obtain ⟨g, f, i, l⟩ := n W hb; exact zDe k a ds S W g f 2 m ma mc i hm hk hw2 hd2 b c he (by constructor <;> decide) hf64 hg64 l
  ·rw [b, c, if_pos rfl, if_pos rfl] at hs; cases hs
 have p2 : (m.2.2.2.1 == 2) = false := by simp [q]
 have r := q;clear q;by_cases q : m.2.2.2.1 = 4
 ·have d : zBL m.2.2.2.1 = 3 := by rw [q]; rfl
  rw [zBi d (by decide)] at hs;cases b : zDv 3 m
  ·rw [b, if_neg (by decide)] at hs; cases hs
  cases c : a.2.2.2.1
  ·rw [zDf d (by decide)];exact hear_go4 k a ds S w h hS m ma mc (by rw [q]; rfl) (by rw [q]; rfl) (by rw [q]; rfl) _ _ fun W hb => by obtain ⟨g, f, i, l⟩ := n W hb; exact zDe k a ds S W g f 3 m ma mc i hm hk hw2 hd2 b c he (by constructor <;> decide) hf64 hg64 l
  ·rw [b, c, if_pos rfl, if_pos rfl] at hs; cases hs
 have p4 : (m.2.2.2.1 == 4) = false := by simp [q]
 have p := q;clear q;by_cases q : m.2.2.2.1 = 5
 ·have d : zBL m.2.2.2.1 = 4 := by rw [q]; rfl
  rw [zBi d (by decide)] at hs;cases b : zDv 4 m
  ·rw [b, if_neg (by decide)] at hs; cases hs
  cases c : a.2.2.2.1
  ·rw [zDf d (by decide)];exact hear_go5 k a ds S w h hS m ma mc (by rw [q]; rfl) (by rw [q]; rfl) (by rw [q]; rfl) (by rw [q]; rfl) _ _ fun W hb => by obtain ⟨g, f, i, l⟩ := n W hb; exact zDe k a ds S W g f 4 m ma mc i hm hk hw2 hd2 b c he (by constructor <;> decide) hf64 hg64 l
  ·rw [b, c, if_pos rfl, if_pos rfl] at hs; cases hs
 have p5 : (m.2.2.2.1 == 5) = false := by simp [q]
 have s := q;clear q;by_cases q : m.2.2.2.1 = 3
 ·rw [zHK q] at hs;cases b : zA6 m.2.1 0 3
  ·rw [b, if_neg (by decide)] at hs; cases hs
  cases c : a.2.2.2.1
  ·rw [zJK q];exact hear_go3 k a ds S w h hS m ma mc (by rw [q]; rfl) (by rw [q]; rfl) (by rw [q]; rfl) (by rw [q]; rfl) (by rw [q]; rfl) _ _ fun W hb => by obtain ⟨g, f, i, l⟩ := n W hb; exact zJd k a ds S W g f m ma mc i hm hk hf64 hd2 b c he
  ·rw [b, c, if_pos rfl, if_pos rfl] at hs; cases hs
 have p3 : (m.2.2.2.1 == 3) = false := by simp [q]
 have B := q;clear q;by_cases q : m.2.2.2.1 = 8
 ·rw [zEZ (.inl q)] at hs;cases b : zFL a.2 m.2.1
  ·rw [b, if_neg (by decide)] at hs; cases hs
  ·rw [zHL (.inl q)];exact hear_go8 k a ds S w h hS m ma mc (by rw [q]; rfl) (by rw [q]; rfl) (by rw [q]; rfl) (by rw [q]; rfl) (by rw [q]; rfl) (by rw [q]; rfl) _ _ fun W hb => by obtain ⟨g, f, i, l⟩ := n W hb; exact zF4 k a ds S W g f m ma mc i hm hk hw2 hd2 b he l
 have p8 : (m.2.2.2.1 == 8) = false := by simp [q]
 have z := q;clear q;by_cases q : m.2.2.2.1 = 9
 ·rw [zEZ (.inr q)] at hs;cases b : zFL a.2 m.2.1
  ·rw [b, if_neg (by decide)] at hs; cases hs
  ·rw [zHL (.inr q)];exact hear_go9 k a ds S w h hS m ma mc (by rw [q]; rfl) (by rw [q]; rfl) (by rw [q]; rfl) (by rw [q]; rfl) (by rw [q]; rfl) (by rw [q]; rfl) (by rw [q]; rfl) _ _ fun W hb => by obtain ⟨g, f, i, l⟩ := n W hb; exact zF4 k a ds S W g f m ma mc i hm hk hw2 hd2 b he l
 have p9 : (m.2.2.2.1 == 9) = false := by simp [q]
 have v := q;clear q;by_cases q : m.2.2.2.1 = 10
 ·rw [zIA q] at hs;cases b : zDw a.2 m.2.1
  ·rw [b, if_neg (by decide)] at hs; cases hs
  ·rw [zIB q];exact zLA k a ds S w h hS m ma mc (by rw [q]; rfl) (by rw [q]; rfl) (by rw [q]; rfl) (by rw [q]; rfl) (by rw [q]; rfl) (by rw [q]; rfl) (by rw [q]; rfl) (by rw [q]; rfl) _ _ fun W hb => by obtain ⟨g, f, i, l⟩ := n W hb; exact zKp k a ds S W g f m ma mc i b
 have A : (m.2.2.2.1 == 10) = false := by simp [q]
 have o := q;clear q;rw [zGp y r p s B z v o] at hs;cases hs
theorem zLC (k : Int) (a : zB0) (ds : List Value) (S : zAN) (w : World) (h : zBM.own w S ds a) (hS : ∀ j, S j → j < w.heap.size) (m : zAS) (ma : Option Addr) (mc : Nat) (hd : zBv zBf w ma m.2.2.2.2.2.1) (hm : m.2.2.2.2.2.1.length ≤ 1048576) (hk : zA4 k) (hw2 : a.1.length ≤ 1048576) (hd2 : a.2.2.2.2.2.2.2.2.length ≤ 1048576) (he : zBR a.2 = true) (hf64 : zA4 m.2.1) (hg64 : zA4 m.2.2.2.2.2.2) (hh : HoldT w) (c : Int) (hs : zBd a m = some c) :
    Calls Tryz.prog 89 #[zBw (nI k :: ds), .agg #[nI m.1, nI m.2.1, nI m.2.2.1, nI m.2.2.2.1, nI m.2.2.2.2.1, sL ma m.2.2.2.2.2.1.length mc, nI m.2.2.2.2.2.2]] w fun e w' => e = .panicked [{ v := .iface 101 (nI c), recovered := false }] ∧ Bl w w' := by
 have n : ∀ W, Bl w W → zBM.own W S ds a ∧ (∀ j, S j → j < W.heap.size) ∧ zBv zBf W ma m.2.2.2.2.2.1 ∧ HoldT W := fun W hb => ⟨zBM.own_keep h (zAj hb), fun j q => Nat.lt_of_lt_of_le (hS j q) hb.size, zAt hd hb, HoldT.goes hh hb⟩;by_cases q : m.2.2.2.1 = 1
 ·have l : zBL m.2.2.2.1 = 1 := by rw [q]; rfl
  rw [zBi l (by decide)] at hs;cases b : zDv 1 m
  ·rw [b, if_neg (by decide)] at hs; cases hs;exact zGW k a ds S w h hS m ma mc (by rw [q]; rfl) 0 fun W hb => by obtain ⟨g, f, i, o⟩ := n W hb; exact zCL k a ds S W g f 1 m ma mc i b
  cases d : a.2.2.2.1
  ·rw [b, d, if_pos rfl, if_neg (by decide)] at hs; cases hs
  ·rw [b, d, if_pos rfl, if_pos rfl] at hs; cases hs;exact zGW k a ds S w h hS m ma mc (by rw [q]; rfl) 2 fun W hb => by obtain ⟨g, f, i, o⟩ := n W hb; exact zCM k a ds S W g f 1 m ma mc i b d
 have I : (m.2.2.2.1 == 1) = false := by simp [q]
 have H := q;clear q;by_cases q : m.2.2.2.1 = 2
 ·have l : zBL m.2.2.2.1 = 2 := by rw [q]; rfl
  rw [zBi l (by decide)] at hs;cases b : zDv 2 m
  ·rw [b, if_neg (by decide)] at hs; cases hs;exact zGX k a ds S w h hS m ma mc (by rw [q]; rfl) (by rw [q]; rfl) 0 fun W hb => by obtain ⟨g, f, i, o⟩ := n W hb; exact zCL k a ds S W g f 2 m ma mc i b
  cases d : a.2.2.2.1
  ·rw [b, d, if_pos rfl, if_neg (by decide)] at hs; cases hs
  ·rw [b, d, if_pos rfl, if_pos rfl] at hs; cases hs;exact zGX k a ds S w h hS m ma mc (by rw [q]; rfl) (by rw [q]; rfl) 2 fun W hb => by obtain ⟨g, f, i, o⟩ := n W hb; exact zCM k a ds S W g f 2 m ma mc i b d
 have A : (m.2.2.2.1 == 2) = false := by simp [q]
 have D := q;clear q;by_cases q : m.2.2.2.1 = 4
 ·have l : zBL m.2.2.2.1 = 3 := by rw [q]; rfl
  rw [zBi l (by decide)] at hs;cases b : zDv 3 m
  ·rw [b, if_neg (by decide)] at hs; cases hs;exact zGY k a ds S w h hS m ma mc (by rw [q]; rfl) (by rw [q]; rfl) (by rw [q]; rfl) 0 fun W hb => by obtain ⟨g, f, i, o⟩ := n W hb; exact zCL k a ds S W g f 3 m ma mc i b
  cases d : a.2.2.2.1
  ·rw [b, d, if_pos rfl, if_neg (by decide)] at hs; cases hs
  ·rw [b, d, if_pos rfl, if_pos rfl] at hs; cases hs;exact zGY k a ds S w h hS m ma mc (by rw [q]; rfl) (by rw [q]; rfl) (by rw [q]; rfl) 2 fun W hb => by obtain ⟨g, f, i, o⟩ := n W hb; exact zCM k a ds S W g f 3 m ma mc i b d
 have y : (m.2.2.2.1 == 4) = false := by simp [q]
 have s := q;clear q;by_cases q : m.2.2.2.1 = 5
 ·have l : zBL m.2.2.2.1 = 4 := by rw [q]; rfl
  rw [zBi l (by decide)] at hs;cases b : zDv 4 m
  ·rw [b, if_neg (by decide)] at hs; cases hs;exact zGZ k a ds S w h hS m ma mc (by rw [q]; rfl) (by rw [q]; rfl) (by rw [q]; rfl) (by rw [q]; rfl) 0 fun W hb => by obtain ⟨g, f, i, o⟩ := n W hb; exact zCL k a ds S W g f 4 m ma mc i b
  cases d : a.2.2.2.1
  ·rw [b, d, if_pos rfl, if_neg (by decide)] at hs; cases hs
  ·rw [b, d, if_pos rfl, if_pos rfl] at hs; cases hs;exact zGZ k a ds S w h hS m ma mc (by rw [q]; rfl) (by rw [q]; rfl) (by rw [q]; rfl) (by rw [q]; rfl) 2 fun W hb => by obtain ⟨g, f, i, o⟩ := n W hb; exact zCM k a ds S W g f 4 m ma mc i b d
 have C : (m.2.2.2.1 == 5) = false := by simp [q]
 have E := q;clear q;by_cases q : m.2.2.2.1 = 3
 ·rw [zHK q] at hs;cases b : zA6 m.2.1 0 3
  ·rw [b, if_neg (by decide)] at hs; cases hs;exact zHc k a ds S w h hS m ma mc (by rw [q]; rfl) (by rw [q]; rfl) (by rw [q]; rfl) (by rw [q]; rfl) (by rw [q]; rfl) 0 fun W hb => by obtain ⟨g, f, i, o⟩ := n W hb; exact zI4 k a ds S W g f m ma mc i b
  cases d : a.2.2.2.1
  ·rw [b, d, if_pos rfl, if_neg (by decide)] at hs; cases hs
  ·rw [b, d, if_pos rfl, if_pos rfl] at hs; cases hs;exact zHc k a ds S w h hS m ma mc (by rw [q]; rfl) (by rw [q]; rfl) (by rw [q]; rfl) (by rw [q]; rfl) (by rw [q]; rfl) 2 fun W hb => by obtain ⟨g, f, i, o⟩ := n W hb; exact zI5 k a ds S W g f m ma mc i b d
 have B : (m.2.2.2.1 == 3) = false := by simp [q]
 have K := q;clear q;by_cases q : m.2.2.2.1 = 8
 ·rw [zEZ (.inl q)] at hs;cases b : zFL a.2 m.2.1
  ·rw [b, if_neg (by decide)] at hs; cases hs;exact zKs k a ds S w h hS m ma mc (by rw [q]; rfl) (by rw [q]; rfl) (by rw [q]; rfl) (by rw [q]; rfl) (by rw [q]; rfl) (by rw [q]; rfl) 0 fun W hb => by obtain ⟨g, f, i, o⟩ := n W hb; exact zGo k a ds S W g f m ma mc i b
  ·rw [b, if_pos rfl] at hs; cases hs
 have z : (m.2.2.2.1 == 8) = false := by simp [q]
 have J := q;clear q;by_cases q : m.2.2.2.1 = 9
 ·rw [zEZ (.inr q)] at hs;cases b : zFL a.2 m.2.1
  ·rw [b, if_neg (by decide)] at hs; cases hs;exact zKt k a ds S w h hS m ma mc (by rw [q]; rfl) (by rw [q]; rfl) (by rw [q]; rfl) (by rw [q]; rfl) (by rw [q]; rfl) (by rw [q]; rfl) (by rw [q]; rfl) 0 fun W hb => by obtain ⟨g, f, i, o⟩ := n W hb; exact zGo k a ds S W g f m ma mc i b
  ·rw [b, if_pos rfl] at hs; cases hs
 have G : (m.2.2.2.1 == 9) = false := by simp [q]
 have F := q;clear q;by_cases q : m.2.2.2.1 = 10
 ·rw [zIA q] at hs;cases b : zDw a.2 m.2.1
  ·rw [b, if_neg (by decide)] at hs; cases hs;exact zJi k a ds S w h hS m ma mc (by rw [q]; rfl) (by rw [q]; rfl) (by rw [q]; rfl) (by rw [q]; rfl) (by rw [q]; rfl) (by rw [q]; rfl) (by rw [q]; rfl) (by rw [q]; rfl) 0 fun W hb => by obtain ⟨g, f, i, o⟩ := n W hb; exact zL5 k a ds S W g f m ma mc i b
  ·rw [b, if_pos rfl] at hs; cases hs
 have p : (m.2.2.2.1 == 10) = false := by simp [q]
 have r := q;clear q;rw [zGp H D s E K J F r] at hs;cases hs;exact zLB k a ds S w h hS m ma mc I A y C B z G p
end Go.Proofs.YtmaopldahnejdaaGreatDoor
