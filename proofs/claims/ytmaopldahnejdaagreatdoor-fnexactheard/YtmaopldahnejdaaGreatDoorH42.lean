import Derived.Test.YtmaopldahnejdaaGreatDoorH00Box
import Derived.Test.YtmaopldahnejdaaGreatDoorH40
import Derived.Test.YtmaopldahnejdaaGreatDoorH41
import Derived.Test.YtmaopldahnejdaaGreatDoorH36
import Derived.Test.YtmaopldahnejdaaGreatDoorH32
import Derived.Test.YtmaopldahnejdaaGreatDoorH38
namespace Go.Proofs.YtmaopldahnejdaaGreatDoor
set_option maxHeartbeats 4000000
set_option maxRecDepth 20000
open Go.ChangeShapes Go.WideShapes Go.ChangeAt Go.RowKit
set_option linter.unusedVariables false
set_option linter.unusedSimpArgs false
theorem behind {X : Prop} {P : Program} {a : Act} {w : World} (h : X) (_ : wpAny P .any #[] (fun _ _ _ => True) 0 #[] a w) : X := h
theorem answered_no (k : Int) (a : AccD) (ds : List Value) (S : Foot) (w : World) (h : accR.own w S ds a) (hS : ∀ j, S j → j < w.heap.size) (m : MsgD) (ma : Option Addr) (mc : Nat) (hd : SlRd intR w ma m.2.2.2.2.2.1) (hn : ansB a.2 m.2.1 = false) :
    Calls Tryz.prog 119 #[aggV (nI k :: ds), .agg #[nI m.1, nI m.2.1, nI m.2.2.1, nI m.2.2.2.1, nI m.2.2.2.2.1, sL ma m.2.2.2.2.2.1.length mc, nI m.2.2.2.2.2.2]] w fun e w' => e = .panicked [{ v := .iface 101 (nI 0), recovered := false }] ∧ Bl w w' := by
 obtain ⟨J, wc, E, F, H, G, rfl, U, T, R, V, O, K⟩ := acc_open h;have HI : Hid _ := U;have H1 : Hid (∀ W, Bl w W → intsR.own W H [sL J a.1.length wc] a.1) := fun W C => intsR.own_keep T (keeps_below C);have H2 : Hid (∀ W, Bl w W → intsR.own W G [sL E a.2.2.2.2.2.2.2.2.length F] a.2.2.2.2.2.2.2.2) := fun W C => intsR.own_keep R (keeps_below C);have Y : Hid (∀ j, S j → j < w.heap.size) := hS;have HS : Hid (Sub H S ∧ Sub G S ∧ Dis H G) := ⟨V, O, K⟩;clear h hS U T R V O K hd;change Calls Tryz.prog 119 #[.agg #[nI k, sL J a.1.length wc, nI a.2.1, nI a.2.2.1, .bool a.2.2.2.1, nI a.2.2.2.2.1, nI a.2.2.2.2.2.1, nI a.2.2.2.2.2.2.1, nI a.2.2.2.2.2.2.2.1, sL E a.2.2.2.2.2.2.2.2.length F], .agg #[nI m.1, nI m.2.1, nI m.2.2.1, nI m.2.2.2.1, nI m.2.2.2.2.1, sL ma m.2.2.2.2.2.1.length mc, nI m.2.2.2.2.2.2]] w _
 cases C : a.2.2.2.1
 ·clear hn;have B := Below.refl w.heap.size w;go_enter Tryz.func119, Tryz.ntmps119;go_upto_region 1 with fail
  generalize b : w.alloc _ = u1w;have X := boxH b;have f := boxB b;have g := boxL b;clear b;rw [show w.heap.size = w.heap.size from by omega] at X;replace B := below_step B f;clear f;have p := lE g;have s := lE g.symm;clear g;generalize d : u1w.alloc _ = u2w;have M := boxH d;have f := boxB d;have l := boxL d;clear d;rw [show u1w.heap.size = w.heap.size + 1 from by omega] at M;replace B := below_step B f;replace X := row_keep f X;clear f;have z := lE l;have A := lE l.symm;clear l;generalize c : u2w.alloc _ = u3w;have Z := boxH c;have f := boxB c;have n := boxL c;clear c;rw [show u2w.heap.size = w.heap.size + 1 + 1 from by omega] at Z;replace B := below_step B f;replace X := row_keep f X;replace M := row_keep f M;clear f;have D := lE n;have y := lE n.symm;clear n;obtain ⟨Xc0, Xc1, Xc2, Xc3, Xc4, Xc5, Xc6, Xc7, Xc8, Xc9⟩ := cells_acc X;have Xlt := (ltH X);obtain ⟨Mc0, Mc1, Mc2, Mc3, Mc4, Mc5, Mc6⟩ := cells_7 M;have Mlt := (ltH M);obtain ⟨Zc0, Zc1, Zc2, Zc3, Zc4, Zc5, Zc6, Zc7, Zc8, Zc9⟩ := cells_acc Z;have Zlt := (ltH Z);replace B := B.drew;first | (go_region_with (first | (go_at_call 86; refine (insist_no _ _).mono ?_; rintro e r ⟨rfl, o⟩; rw [o]; clear o r; refine behind (P := Tryz.prog) (a := { tmps := #[], defers := [] }) (w := w) (aI rfl (aI rfl B)) ?_) | fail)) | fail
  all_goals exact trivial
 ·by_cases I : 0 < a.2.2.2.2.2.2.1
  ·have L : decide (0 < a.2.2.2.2.2.2.1) = true := decide_eq_true I;have N : holB a.2.1 a.2.2.1 m.2.1 = false := by
    unfold ansB at hn;rw [C, L] at hn;exact hn
   have HO : Hid (∀ W, Calls Tryz.prog 106 #[.agg #[nI a.2.2.1, nI a.2.1], nI m.2.1] W fun e w' => e = .returned (.bool false) ∧ Bl W w') := fun W => by have q := holds_any a.2.1 a.2.2.1 m.2.1 W; rw [N] at q; exact q
   clear hn N;have B := Below.refl w.heap.size w;go_enter Tryz.func119, Tryz.ntmps119;go_upto_region 1 with fail
   generalize b : w.alloc _ = u1w;have X := boxH b;have f := boxB b;have g := boxL b;clear b;rw [show w.heap.size = w.heap.size from by omega] at X;replace B := below_step B f;clear f;have p := lE g;have s := lE g.symm;clear g;generalize d : u1w.alloc _ = u2w;have M := boxH d;have f := boxB d;have l := boxL d;clear d;rw [show u1w.heap.size = w.heap.size + 1 from by omega] at M;replace B := below_step B f;replace X := row_keep f X;clear f;have z := lE l;have A := lE l.symm;clear l;generalize c : u2w.alloc _ = u3w;have Z := boxH c;have f := boxB c;have n := boxL c;clear c;rw [show u2w.heap.size = w.heap.size + 1 + 1 from by omega] at Z;replace B := below_step B f;replace X := row_keep f X;replace M := row_keep f M;clear f;have D := lE n;have y := lE n.symm;clear n;obtain ⟨Xc0, Xc1, Xc2, Xc3, Xc4, Xc5, Xc6, Xc7, Xc8, Xc9⟩ := cells_acc X;have Xlt := (ltH X);obtain ⟨Mc0, Mc1, Mc2, Mc3, Mc4, Mc5, Mc6⟩ := cells_7 M;have Mlt := (ltH M);obtain ⟨Zc0, Zc1, Zc2, Zc3, Zc4, Zc5, Zc6, Zc7, Zc8, Zc9⟩ := cells_acc Z;have Zlt := (ltH Z);replace B := B.drew;first | (go_region_with (first | (go_at_call 86; refine (insist_no _ _).mono ?_; rintro e r ⟨rfl, o⟩; rw [o]; clear o r; refine behind (P := Tryz.prog) (a := { tmps := #[], defers := [] }) (w := w) (aI rfl (aI rfl B)) ?_) | (go_at_call 105; refine (page_any a.2.1 a.2.2.1 a.2.2.2.2.1 a.2.2.2.2.2.1 a.2.2.2.2.2.2.1 a.2.2.2.2.2.2.2.1 true (sL E a.2.2.2.2.2.2.2.2.length F) _).mono ?_; rintro e cA ⟨rfl, i⟩; clear Xc0 Xc1 Xc2 Xc3 Xc4 Xc5 Xc6 Xc7 Xc8 Xc9 Xlt Mc0 Mc1 Mc2 Mc3 Mc4 Mc5 Mc6 Mlt Zc0 Zc1 Zc2 Zc3 Zc4 Zc5 Zc6 Zc7 Zc8 Zc9 Zlt; replace B := below_step B i; replace X := row_keep i X; replace M := row_keep i M; replace Z := row_keep i Z; clear i; obtain ⟨Xc0, Xc1, Xc2, Xc3, Xc4, Xc5, Xc6, Xc7, Xc8, Xc9⟩ := cells_acc X; have Xlt := (ltH X); obtain ⟨Mc0, Mc1, Mc2, Mc3, Mc4, Mc5, Mc6⟩ := cells_7 M; have Mlt := (ltH M); obtain ⟨Zc0, Zc1, Zc2, Zc3, Zc4, Zc5, Zc6, Zc7, Zc8, Zc9⟩ := cells_acc Z; have Zlt := (ltH Z)) | (go_at_call 106; refine (HO.out _).mono ?_; rintro e bA ⟨rfl, i⟩; clear Xc0 Xc1 Xc2 Xc3 Xc4 Xc5 Xc6 Xc7 Xc8 Xc9 Xlt Mc0 Mc1 Mc2 Mc3 Mc4 Mc5 Mc6 Mlt Zc0 Zc1 Zc2 Zc3 Zc4 Zc5 Zc6 Zc7 Zc8 Zc9 Zlt; replace B := below_step B i; replace X := row_keep i X; replace M := row_keep i M; replace Z := row_keep i Z; clear i; obtain ⟨Xc0, Xc1, Xc2, Xc3, Xc4, Xc5, Xc6, Xc7, Xc8, Xc9⟩ := cells_acc X; have Xlt := (ltH X); obtain ⟨Mc0, Mc1, Mc2, Mc3, Mc4, Mc5, Mc6⟩ := cells_7 M; have Mlt := (ltH M); obtain ⟨Zc0, Zc1, Zc2, Zc3, Zc4, Zc5, Zc6, Zc7, Zc8, Zc9⟩ := cells_acc Z; have Zlt := (ltH Z)) | fail)) | fail
   all_goals exact trivial
  ·have L : decide (0 < a.2.2.2.2.2.2.1) = false := decide_eq_false I;clear hn;have B := Below.refl w.heap.size w;go_enter Tryz.func119, Tryz.ntmps119;go_upto_region 1 with fail
   generalize b : w.alloc _ = u1w;have X := boxH b;have f := boxB b;have g := boxL b;clear b;rw [show w.heap.size = w.heap.size from by omega] at X;replace B := below_step B f;clear f;have p := lE g;have s := lE g.symm;clear g;generalize d : u1w.alloc _ = u2w;have M := boxH d;have f := boxB d;have l := boxL d;clear d;rw [show u1w.heap.size = w.heap.size + 1 from by omega] at M;replace B := below_step B f;replace X := row_keep f X;clear f;have z := lE l;have A := lE l.symm;clear l;generalize c : u2w.alloc _ = u3w;have Z := boxH c;have f := boxB c;have n := boxL c;clear c;rw [show u2w.heap.size = w.heap.size + 1 + 1 from by omega] at Z;replace B := below_step B f;replace X := row_keep f X;replace M := row_keep f M;clear f;have D := lE n;have y := lE n.symm;clear n;obtain ⟨Xc0, Xc1, Xc2, Xc3, Xc4, Xc5, Xc6, Xc7, Xc8, Xc9⟩ := cells_acc X;have Xlt := (ltH X);obtain ⟨Mc0, Mc1, Mc2, Mc3, Mc4, Mc5, Mc6⟩ := cells_7 M;have Mlt := (ltH M);obtain ⟨Zc0, Zc1, Zc2, Zc3, Zc4, Zc5, Zc6, Zc7, Zc8, Zc9⟩ := cells_acc Z;have Zlt := (ltH Z);replace B := B.drew;first | (go_region_with (first | (go_at_call 86; refine (insist_no _ _).mono ?_; rintro e r ⟨rfl, o⟩; rw [o]; clear o r; refine behind (P := Tryz.prog) (a := { tmps := #[], defers := [] }) (w := w) (aI rfl (aI rfl B)) ?_) | fail)) | fail
   all_goals exact trivial
theorem stop_req {a : AccD} {m : MsgD} {n : Int} (hk : kindA m.2.2.2.1 = n) (hp : 0 < n) : stopA a m = if mayB n m then (if a.2.2.2.1 then some 2 else none) else some 0 := by unfold stopA; rw [hk, if_pos hp]
theorem hear_req {a : AccD} {m : MsgD} {k n : Int} (hk : kindA m.2.2.2.1 = n) (hp : 0 < n) : hearA k a m = reqA n k a m := by unfold hearA; rw [hk, if_pos hp]
theorem stop_put {a : AccD} {m : MsgD} (q : m.2.2.2.1 = 3) : stopA a m = if betw m.2.1 0 3 then (if a.2.2.2.1 then some 2 else none) else some 0 := by unfold stopA; rw [q]; rfl
theorem hear_put {a : AccD} {m : MsgD} {k : Int} (q : m.2.2.2.1 = 3) : hearA k a m = putBackA k a m := by unfold hearA; rw [q]; rfl
theorem stop_ans {a : AccD} {m : MsgD} (q : m.2.2.2.1 = 8 ∨ m.2.2.2.1 = 9) : stopA a m = if ansB a.2 m.2.1 then none else some 0 := by unfold stopA; rcases q with q | q <;> rw [q] <;> rfl
theorem hear_ans {a : AccD} {m : MsgD} {k : Int} (q : m.2.2.2.1 = 8 ∨ m.2.2.2.1 = 9) : hearA k a m = ansA k a m := by unfold hearA; rcases q with q | q <;> rw [q] <;> rfl
theorem stop_done {a : AccD} {m : MsgD} (q : m.2.2.2.1 = 10) : stopA a m = if doneB19 a.2 m.2.1 then none else some 0 := by unfold stopA; rw [q]; rfl
theorem hear_done {a : AccD} {m : MsgD} {k : Int} (q : m.2.2.2.1 = 10) : hearA k a m = ((a.1, freeE a.2), []) := by unfold hearA; rw [q]; rfl
theorem stop_else {a : AccD} {m : MsgD} (h1 : m.2.2.2.1 ≠ 1) (h2 : m.2.2.2.1 ≠ 2) (h4 : m.2.2.2.1 ≠ 4) (h5 : m.2.2.2.1 ≠ 5) (h3 : m.2.2.2.1 ≠ 3) (h8 : m.2.2.2.1 ≠ 8) (h9 : m.2.2.2.1 ≠ 9) (h10 : m.2.2.2.1 ≠ 10) : stopA a m = some 0 := by
 have b : kindA m.2.2.2.1 = 0 := by unfold kindA; rw [if_neg h1, if_neg h2, if_neg h4, if_neg h5]
 unfold stopA;rw [b, if_neg (by decide), if_neg h3, if_neg (by omega), if_neg h10]
theorem hear_any (k : Int) (a : AccD) (ds : List Value) (S : Foot) (w : World) (h : accR.own w S ds a) (hS : ∀ j, S j → j < w.heap.size) (m : MsgD) (ma : Option Addr) (mc : Nat) (hd : SlRd intR w ma m.2.2.2.2.2.1) (hm : m.2.2.2.2.2.1.length ≤ 1048576) (hk : In64 k) (hw2 : a.1.length ≤ 1048576) (hd2 : a.2.2.2.2.2.2.2.2.length ≤ 1048576) (he : entB a.2 = true) (hf64 : In64 m.2.1) (hg64 : In64 m.2.2.2.2.2.2) (hh : HoldT w) (hs : stopA a m = none) :
    Calls Tryz.prog 89 #[aggV (nI k :: ds), .agg #[nI m.1, nI m.2.1, nI m.2.2.1, nI m.2.2.2.1, nI m.2.2.2.2.1, sL ma m.2.2.2.2.2.1.length mc, nI m.2.2.2.2.2.2]] w fun e w' => AccQ w S k (hearA k a m).1 (hearA k a m).2 e w' := by
 have n : ∀ W, Bl w W → accR.own W S ds a ∧ (∀ j, S j → j < W.heap.size) ∧ SlRd intR W ma m.2.2.2.2.2.1 ∧ HoldT W := fun W hb => ⟨accR.own_keep h (keeps_below hb), fun j q => Nat.lt_of_lt_of_le (hS j q) hb.size, slrd_next hd hb, HoldT.goes hh hb⟩;by_cases q : m.2.2.2.1 = 1
 ·have d : kindA m.2.2.2.1 = 1 := by rw [q]; rfl
  rw [stop_req d (by decide)] at hs;cases b : mayB 1 m
  ·rw [b, if_neg (by decide)] at hs; cases hs
  cases c : a.2.2.2.1
  ·rw [hear_req d (by decide)];exact hear_go1 k a ds S w h hS m ma mc (by rw [q]; rfl) _ _ fun W hb => by obtain ⟨i, g, f, l⟩ := n W hb; exact requested_any k a ds S W i g 1 m ma mc f hm hk hw2 hd2 b c he (by constructor <;> decide) hf64 hg64 l
  ·rw [b, c, if_pos rfl, if_pos rfl] at hs; cases hs
 have p1 : (m.2.2.2.1 == 1) = false := by simp [q]
 have B := q;clear q;by_cases q : m.2.2.2.1 = 2
 ·have d : kindA m.2.2.2.1 = 2 := by rw [q]; rfl
  rw [stop_req d (by decide)] at hs;cases b : mayB 2 m
  ·rw [b, if_neg (by decide)] at hs; cases hs
  cases c : a.2.2.2.1
  ·rw [hear_req d (by decide)];exact hear_go2 k a ds S w h hS m ma mc (by rw [q]; rfl) (by rw [q]; rfl) _ _ fun W hb => by obtain ⟨i, g, f, l⟩ := n W hb; exact requested_any k a ds S W i g 2 m ma mc f hm hk hw2 hd2 b c he (by constructor <;> decide) hf64 hg64 l
  ·rw [b, c, if_pos rfl, if_pos rfl] at hs; cases hs
 have p2 : (m.2.2.2.1 == 2) = false := by simp [q]
 have y := q;clear q;by_cases q : m.2.2.2.1 = 4
 ·have d : kindA m.2.2.2.1 = 3 := by rw [q]; rfl
  rw [stop_req d (by decide)] at hs;cases b : mayB 3 m
  ·rw [b, if_neg (by decide)] at hs; cases hs
  cases c : a.2.2.2.1
  ·rw [hear_req d (by decide)];exact hear_go4 k a ds S w h hS m ma mc (by rw [q]; rfl) (by rw [q]; rfl) (by rw [q]; rfl) _ _ fun W hb => by obtain ⟨i, g, f, l⟩ := n W hb; exact requested_any k a ds S W i g 3 m ma mc f hm hk hw2 hd2 b c he (by constructor <;> decide) hf64 hg64 l
  ·rw [b, c, if_pos rfl, if_pos rfl] at hs; cases hs
 have p4 : (m.2.2.2.1 == 4) = false := by simp [q]
 have v := q;clear q;by_cases q : m.2.2.2.1 = 5
 ·have d : kindA m.2.2.2.1 = 4 := by rw [q]; rfl
  rw [stop_req d (by decide)] at hs;cases b : mayB 4 m
  ·rw [b, if_neg (by decide)] at hs; cases hs
  cases c : a.2.2.2.1
  ·rw [hear_req d (by decide)];exact hear_go5 k a ds S w h hS m ma mc (by rw [q]; rfl) (by rw [q]; rfl) (by rw [q]; rfl) (by rw [q]; rfl) _ _ fun W hb => by obtain ⟨i, g, f, l⟩ := n W hb; exact requested_any k a ds S W i g 4 m ma mc f hm hk hw2 hd2 b c he (by constructor <;> decide) hf64 hg64 l
  ·rw [b, c, if_pos rfl, if_pos rfl] at hs; cases hs
 have p5 : (m.2.2.2.1 == 5) = false := by simp [q]
 have s := q;clear q;by_cases q : m.2.2.2.1 = 3
 ·rw [stop_put q] at hs;cases b : betw m.2.1 0 3
  ·rw [b, if_neg (by decide)] at hs; cases hs
  cases c : a.2.2.2.1
  ·rw [hear_put q];exact hear_go3 k a ds S w h hS m ma mc (by rw [q]; rfl) (by rw [q]; rfl) (by rw [q]; rfl) (by rw [q]; rfl) (by rw [q]; rfl) _ _ fun W hb => by obtain ⟨i, g, f, l⟩ := n W hb; exact putBack_any k a ds S W i g m ma mc f hm hk hf64 hd2 b c he
  ·rw [b, c, if_pos rfl, if_pos rfl] at hs; cases hs
 have p3 : (m.2.2.2.1 == 3) = false := by simp [q]
 have r := q;clear q;by_cases q : m.2.2.2.1 = 8
 ·rw [stop_ans (.inl q)] at hs;cases b : ansB a.2 m.2.1
  ·rw [b, if_neg (by decide)] at hs; cases hs
  ·rw [hear_ans (.inl q)];exact hear_go8 k a ds S w h hS m ma mc (by rw [q]; rfl) (by rw [q]; rfl) (by rw [q]; rfl) (by rw [q]; rfl) (by rw [q]; rfl) (by rw [q]; rfl) _ _ fun W hb => by obtain ⟨i, g, f, l⟩ := n W hb; exact answered_any k a ds S W i g m ma mc f hm hk hw2 hd2 b he l
 have p8 : (m.2.2.2.1 == 8) = false := by simp [q]
 have p := q;clear q;by_cases q : m.2.2.2.1 = 9
 ·rw [stop_ans (.inr q)] at hs;cases b : ansB a.2 m.2.1
  ·rw [b, if_neg (by decide)] at hs; cases hs
  ·rw [hear_ans (.inr q)];exact hear_go9 k a ds S w h hS m ma mc (by rw [q]; rfl) (by rw [q]; rfl) (by rw [q]; rfl) (by rw [q]; rfl) (by rw [q]; rfl) (by rw [q]; rfl) (by rw [q]; rfl) _ _ fun W hb => by obtain ⟨i, g, f, l⟩ := n W hb; exact answered_any k a ds S W i g m ma mc f hm hk hw2 hd2 b he l
 have p9 : (m.2.2.2.1 == 9) = false := by simp [q]
 have A := q;clear q;by_cases q : m.2.2.2.1 = 10
 ·rw [stop_done q] at hs;cases b : doneB19 a.2 m.2.1
  ·rw [b, if_neg (by decide)] at hs; cases hs
  ·rw [hear_done q];exact hear_go10 k a ds S w h hS m ma mc (by rw [q]; rfl) (by rw [q]; rfl) (by rw [q]; rfl) (by rw [q]; rfl) (by rw [q]; rfl) (by rw [q]; rfl) (by rw [q]; rfl) (by rw [q]; rfl) _ _ fun W hb => by obtain ⟨i, g, f, l⟩ := n W hb; exact closed_any k a ds S W i g m ma mc f b
 have z : (m.2.2.2.1 == 10) = false := by simp [q]
 have o := q;clear q;rw [stop_else B y v s r p A o] at hs;cases hs
theorem hear_stop (k : Int) (a : AccD) (ds : List Value) (S : Foot) (w : World) (h : accR.own w S ds a) (hS : ∀ j, S j → j < w.heap.size) (m : MsgD) (ma : Option Addr) (mc : Nat) (hd : SlRd intR w ma m.2.2.2.2.2.1) (hm : m.2.2.2.2.2.1.length ≤ 1048576) (hk : In64 k) (hw2 : a.1.length ≤ 1048576) (hd2 : a.2.2.2.2.2.2.2.2.length ≤ 1048576) (he : entB a.2 = true) (hf64 : In64 m.2.1) (hg64 : In64 m.2.2.2.2.2.2) (hh : HoldT w) (c : Int) (hs : stopA a m = some c) :
    Calls Tryz.prog 89 #[aggV (nI k :: ds), .agg #[nI m.1, nI m.2.1, nI m.2.2.1, nI m.2.2.2.1, nI m.2.2.2.2.1, sL ma m.2.2.2.2.2.1.length mc, nI m.2.2.2.2.2.2]] w fun e w' => e = .panicked [{ v := .iface 101 (nI c), recovered := false }] ∧ Bl w w' := by
 have n : ∀ W, Bl w W → accR.own W S ds a ∧ (∀ j, S j → j < W.heap.size) ∧ SlRd intR W ma m.2.2.2.2.2.1 ∧ HoldT W := fun W hb => ⟨accR.own_keep h (keeps_below hb), fun j q => Nat.lt_of_lt_of_le (hS j q) hb.size, slrd_next hd hb, HoldT.goes hh hb⟩;by_cases q : m.2.2.2.1 = 1
 ·have l : kindA m.2.2.2.1 = 1 := by rw [q]; rfl
  rw [stop_req l (by decide)] at hs;cases b : mayB 1 m
  ·rw [b, if_neg (by decide)] at hs; cases hs;exact hear_stop1 k a ds S w h hS m ma mc (by rw [q]; rfl) 0 fun W hb => by obtain ⟨i, g, f, o⟩ := n W hb; exact requested_none k a ds S W i g 1 m ma mc f b
  cases d : a.2.2.2.1
  ·rw [b, d, if_pos rfl, if_neg (by decide)] at hs; cases hs
  ·rw [b, d, if_pos rfl, if_pos rfl] at hs; cases hs;exact hear_stop1 k a ds S w h hS m ma mc (by rw [q]; rfl) 2 fun W hb => by obtain ⟨i, g, f, o⟩ := n W hb; exact requested_wait k a ds S W i g 1 m ma mc f b d
 have C : (m.2.2.2.1 == 1) = false := by simp [q]
 have K := q;clear q;by_cases q : m.2.2.2.1 = 2
 ·have l : kindA m.2.2.2.1 = 2 := by rw [q]; rfl
  rw [stop_req l (by decide)] at hs;cases b : mayB 2 m
  ·rw [b, if_neg (by decide)] at hs; cases hs;exact hear_stop2 k a ds S w h hS m ma mc (by rw [q]; rfl) (by rw [q]; rfl) 0 fun W hb => by obtain ⟨i, g, f, o⟩ := n W hb; exact requested_none k a ds S W i g 2 m ma mc f b
  cases d : a.2.2.2.1
  ·rw [b, d, if_pos rfl, if_neg (by decide)] at hs; cases hs
  ·rw [b, d, if_pos rfl, if_pos rfl] at hs; cases hs;exact hear_stop2 k a ds S w h hS m ma mc (by rw [q]; rfl) (by rw [q]; rfl) 2 fun W hb => by obtain ⟨i, g, f, o⟩ := n W hb; exact requested_wait k a ds S W i g 2 m ma mc f b d
 have F : (m.2.2.2.1 == 2) = false := by simp [q]
 have E := q;clear q;by_cases q : m.2.2.2.1 = 4
 ·have l : kindA m.2.2.2.1 = 3 := by rw [q]; rfl
  rw [stop_req l (by decide)] at hs;cases b : mayB 3 m
  ·rw [b, if_neg (by decide)] at hs; cases hs;exact hear_stop4 k a ds S w h hS m ma mc (by rw [q]; rfl) (by rw [q]; rfl) (by rw [q]; rfl) 0 fun W hb => by obtain ⟨i, g, f, o⟩ := n W hb; exact requested_none k a ds S W i g 3 m ma mc f b
  cases d : a.2.2.2.1
  ·rw [b, d, if_pos rfl, if_neg (by decide)] at hs; cases hs
  ·rw [b, d, if_pos rfl, if_pos rfl] at hs; cases hs;exact hear_stop4 k a ds S w h hS m ma mc (by rw [q]; rfl) (by rw [q]; rfl) (by rw [q]; rfl) 2 fun W hb => by obtain ⟨i, g, f, o⟩ := n W hb; exact requested_wait k a ds S W i g 3 m ma mc f b d
 have z : (m.2.2.2.1 == 4) = false := by simp [q]
 have D := q;clear q;by_cases q : m.2.2.2.1 = 5
 ·have l : kindA m.2.2.2.1 = 4 := by rw [q]; rfl
  rw [stop_req l (by decide)] at hs;cases b : mayB 4 m
  ·rw [b, if_neg (by decide)] at hs; cases hs;exact hear_stop5 k a ds S w h hS m ma mc (by rw [q]; rfl) (by rw [q]; rfl) (by rw [q]; rfl) (by rw [q]; rfl) 0 fun W hb => by obtain ⟨i, g, f, o⟩ := n W hb; exact requested_none k a ds S W i g 4 m ma mc f b
  cases d : a.2.2.2.1
  ·rw [b, d, if_pos rfl, if_neg (by decide)] at hs; cases hs
  ·rw [b, d, if_pos rfl, if_pos rfl] at hs; cases hs;exact hear_stop5 k a ds S w h hS m ma mc (by rw [q]; rfl) (by rw [q]; rfl) (by rw [q]; rfl) (by rw [q]; rfl) 2 fun W hb => by obtain ⟨i, g, f, o⟩ := n W hb; exact requested_wait k a ds S W i g 4 m ma mc f b d
 have s : (m.2.2.2.1 == 5) = false := by simp [q]
 have B := q;clear q;by_cases q : m.2.2.2.1 = 3
 ·rw [stop_put q] at hs;cases b : betw m.2.1 0 3
  ·rw [b, if_neg (by decide)] at hs; cases hs;exact hear_stop3 k a ds S w h hS m ma mc (by rw [q]; rfl) (by rw [q]; rfl) (by rw [q]; rfl) (by rw [q]; rfl) (by rw [q]; rfl) 0 fun W hb => by obtain ⟨i, g, f, o⟩ := n W hb; exact putBack_none k a ds S W i g m ma mc f b
  cases d : a.2.2.2.1
  ·rw [b, d, if_pos rfl, if_neg (by decide)] at hs; cases hs
  ·rw [b, d, if_pos rfl, if_pos rfl] at hs; cases hs;exact hear_stop3 k a ds S w h hS m ma mc (by rw [q]; rfl) (by rw [q]; rfl) (by rw [q]; rfl) (by rw [q]; rfl) (by rw [q]; rfl) 2 fun W hb => by obtain ⟨i, g, f, o⟩ := n W hb; exact putBack_wait k a ds S W i g m ma mc f b d
 have H : (m.2.2.2.1 == 3) = false := by simp [q]
 have A := q;clear q;by_cases q : m.2.2.2.1 = 8
 ·rw [stop_ans (.inl q)] at hs;cases b : ansB a.2 m.2.1
  ·rw [b, if_neg (by decide)] at hs; cases hs;exact hear_stop8 k a ds S w h hS m ma mc (by rw [q]; rfl) (by rw [q]; rfl) (by rw [q]; rfl) (by rw [q]; rfl) (by rw [q]; rfl) (by rw [q]; rfl) 0 fun W hb => by obtain ⟨i, g, f, o⟩ := n W hb; exact answered_no k a ds S W i g m ma mc f b
  ·rw [b, if_pos rfl] at hs; cases hs
 have J : (m.2.2.2.1 == 8) = false := by simp [q]
 have y := q;clear q;by_cases q : m.2.2.2.1 = 9
 ·rw [stop_ans (.inr q)] at hs;cases b : ansB a.2 m.2.1
  ·rw [b, if_neg (by decide)] at hs; cases hs;exact hear_stop9 k a ds S w h hS m ma mc (by rw [q]; rfl) (by rw [q]; rfl) (by rw [q]; rfl) (by rw [q]; rfl) (by rw [q]; rfl) (by rw [q]; rfl) (by rw [q]; rfl) 0 fun W hb => by obtain ⟨i, g, f, o⟩ := n W hb; exact answered_no k a ds S W i g m ma mc f b
  ·rw [b, if_pos rfl] at hs; cases hs
 have G : (m.2.2.2.1 == 9) = false := by simp [q]
 have I := q;clear q;by_cases q : m.2.2.2.1 = 10
 ·rw [stop_done q] at hs;cases b : doneB19 a.2 m.2.1
  ·rw [b, if_neg (by decide)] at hs; cases hs;exact hear_stop10 k a ds S w h hS m ma mc (by rw [q]; rfl) (by rw [q]; rfl) (by rw [q]; rfl) (by rw [q]; rfl) (by rw [q]; rfl) (by rw [q]; rfl) (by rw [q]; rfl) (by rw [q]; rfl) 0 fun W hb => by obtain ⟨i, g, f, o⟩ := n W hb; exact closed_no k a ds S W i g m ma mc f b
  ·rw [b, if_pos rfl] at hs; cases hs
 have r : (m.2.2.2.1 == 10) = false := by simp [q]
 have p := q;clear q;rw [stop_else K E D B A y I p] at hs;cases hs;exact hear_else k a ds S w h hS m ma mc C F z s H J G r
end Go.Proofs.YtmaopldahnejdaaGreatDoor
