import Derived.Test.YtdamokokcdcedaaGreatDoorE00Box
import Derived.Test.YtdamokokcdcedaaGreatDoorE32
import Derived.Test.YtdamokokcdcedaaGreatDoorE22
namespace Go.Proofs.YtdamokokcdcedaaGreatDoor
set_option maxHeartbeats 4000000
set_option maxRecDepth 20000
open Go.ChangeShapes Go.WideShapes Go.ChangeAt Go.RowKit
set_option linter.unusedVariables false
set_option linter.unusedSimpArgs false
def evC (x : EventD) : Bool := opOkD x.2.1 && (decide (x.2.2.1 = 0) && (decide (x.2.2.2.1 = 0) && decide (x.2.2.2.2.1.length = 0)))
def evP (x : EventD) : Bool := decide (x.1 = 5) && (decide (x.2.1 = (0, 0, 0, 0)) && (decide (x.2.2.2.2.2 = 0) && (betw x.2.2.1 0 15 && (betw x.2.2.2.1 0 3 && isL x.2.2.2.2.1))))
def evB (x : EventD) : Bool := if betw x.1 0 3 then evC x else evP x
theorem l15Event_any (x : EventD) (ea : Option Addr) (ec : Nat) (w : World) (h : SlRd intR w ea x.2.2.2.2.1) (hl : x.2.2.2.2.1.length ≤ maxLen) :
    Calls Tryz.prog 74 #[.agg #[nI x.1, nI x.2.1.1, nI x.2.1.2.1, nI x.2.1.2.2.1, nI x.2.1.2.2.2, nI x.2.2.1, nI x.2.2.2.1, sL ea x.2.2.2.2.1.length ec, nI x.2.2.2.2.2]] w fun e w' => e = .returned (.bool (evB x)) ∧ Bl w w' := by
 have D : Hid (∀ W, Bl w W → Calls Tryz.prog 126 #[nI x.1, nI 0, nI 3] W fun e w' => e = .returned (.bool (betw x.1 0 3)) ∧ Bl W w') := fun W G => (l1In_any x.1 0 3 W).mono fun e w' ⟨q, r⟩ => ⟨q, be_eq r⟩;have X : Hid (∀ W, Bl w W → Calls Tryz.prog 134 #[.agg #[nI x.2.1.1, nI x.2.1.2.1, nI x.2.1.2.2.1, nI x.2.1.2.2.2]] W fun e w' => e = .returned (.bool (opOkD x.2.1)) ∧ Bl W w') := fun W G => specOpOk_any x.2.1.1 x.2.1.2.1 x.2.1.2.2.1 x.2.1.2.2.2 W;have H3 : Hid (∀ W, Bl w W → Calls Tryz.prog 126 #[nI x.2.2.1, nI 0, nI 15] W fun e w' => e = .returned (.bool (betw x.2.2.1 0 15)) ∧ Bl W w') := fun W G => (l1In_any x.2.2.1 0 15 W).mono fun e w' ⟨q, r⟩ => ⟨q, be_eq r⟩;have H4 : Hid (∀ W, Bl w W → Calls Tryz.prog 126 #[nI x.2.2.2.1, nI 0, nI 3] W fun e w' => e = .returned (.bool (betw x.2.2.2.1 0 3)) ∧ Bl W w') := fun W G => (l1In_any x.2.2.2.1 0 3 W).mono fun e w' ⟨q, r⟩ => ⟨q, be_eq r⟩;have H5 : Hid (∀ W, Bl w W → Calls Tryz.prog 131 #[sL ea x.2.2.2.2.1.length ec] W fun e w' => e = .returned (.bool (isL x.2.2.2.2.1)) ∧ Bl W w') := fun W G => (specLineOk_any ea x.2.2.2.2.1 ec W (reads_of (slrd_next h G))).mono fun e w' ⟨q, r⟩ => ⟨q, be_eq r⟩;have DA : x.2.2.2.2.1.length ≤ 9223372036854775807 := hl;clear h hl;unfold evB;cases L : betw x.1 0 3
 ·rw [L] at D;rw [if_neg Bool.false_ne_true];unfold evP;clear L X;generalize betw x.2.2.1 0 15 = q3 at H3 ⊢;generalize betw x.2.2.2.1 0 3 = q4 at H4 ⊢;generalize isL x.2.2.2.2.1 = q5 at H5 ⊢;by_cases A : x.1 = 5
  ·have U : (x.1 == 5) = true := by simp [A]
   have Hha : Hid (x.1 = 5) := A;clear A;by_cases y : x.2.1.1 = 0
   ·have gA : (x.2.1.1 == 0) = true := by simp [y]
    have Hhk0 : Hid (x.2.1.1 = 0) := y;clear y;by_cases z : x.2.1.2.1 = 0
    ·have dA : (x.2.1.2.1 == 0) = true := by simp [z]
     have Hhk1 : Hid (x.2.1.2.1 = 0) := z;clear z;by_cases F : x.2.1.2.2.1 = 0
     ·have jA : (x.2.1.2.2.1 == 0) = true := by simp [F]
      have Hhk2 : Hid (x.2.1.2.2.1 = 0) := F;clear F;by_cases C : x.2.1.2.2.2 = 0
      ·have fA : (x.2.1.2.2.2 == 0) = true := by simp [C]
       have Hhk3 : Hid (x.2.1.2.2.2 = 0) := C;clear C;by_cases V : x.2.2.2.2.2 = 0
       ·have qA : (x.2.2.2.2.2 == 0) = true := by simp [V]
        have Hht : Hid (x.2.2.2.2.2 = 0) := V;clear V;have B := Below.refl w.heap.size w;go_enter Tryz.func74, Tryz.ntmps74;go_upto_region 1 with fail
        generalize g : w.alloc _ = u1w;have E := boxH g;have f := boxB g;have b := boxL g;clear g;replace B := below_step B f;clear f;have j := lE b;have i := lE b.symm;clear b;obtain ⟨Ec0, Ec1, Ec2, Ec3, Ec4, Ec5, Ec6, Ec7, Ec8⟩ := cells_core E;have Elt := (ltH E);go_wp2_with fail
        clear Ec0 Ec1 Ec2 Ec3 Ec4 Ec5 Ec6 Ec7 Ec8 Elt;refine (D.out _ B).mono ?_;rintro e H ⟨rfl, a⟩;have bA : u1w.heap.size ≤ H.heap.size := a.size;replace B := below_step B a;replace E := row_keep a E;clear a;obtain ⟨Ec0, Ec1, Ec2, Ec3, Ec4, Ec5, Ec6, Ec7, Ec8⟩ := cells_core E;have Elt := (ltH E);go_wp2_with fail
        clear Ec0 Ec1 Ec2 Ec3 Ec4 Ec5 Ec6 Ec7 Ec8 Elt;refine (H3.out _ B).mono ?_;rintro e N ⟨rfl, a⟩;have kA : H.heap.size ≤ N.heap.size := a.size;replace B := below_step B a;replace E := row_keep a E;clear a;cases q3
        ·skip
         obtain ⟨Ec0, Ec1, Ec2, Ec3, Ec4, Ec5, Ec6, Ec7, Ec8⟩ := cells_core E;have Elt := (ltH E);have d : Hid _ := B;clear B E;go_wp2;go_ret
         exact ⟨by simp [Hha.out, Hhk0.out, Hhk1.out, Hhk2.out, Hhk3.out, Hht.out, Prod.ext_iff], d.out⟩
        ·skip
         obtain ⟨Ec0, Ec1, Ec2, Ec3, Ec4, Ec5, Ec6, Ec7, Ec8⟩ := cells_core E;have Elt := (ltH E);go_wp2_with fail
         clear Ec0 Ec1 Ec2 Ec3 Ec4 Ec5 Ec6 Ec7 Ec8 Elt;refine (H4.out _ B).mono ?_;rintro e K ⟨rfl, a⟩;have AA : N.heap.size ≤ K.heap.size := a.size;replace B := below_step B a;replace E := row_keep a E;clear a;cases q4
         ·skip
          obtain ⟨Ec0, Ec1, Ec2, Ec3, Ec4, Ec5, Ec6, Ec7, Ec8⟩ := cells_core E;have Elt := (ltH E);have d : Hid _ := B;clear B E;go_wp2;go_ret
          exact ⟨by simp [Hha.out, Hhk0.out, Hhk1.out, Hhk2.out, Hhk3.out, Hht.out, Prod.ext_iff], d.out⟩
         ·skip
          obtain ⟨Ec0, Ec1, Ec2, Ec3, Ec4, Ec5, Ec6, Ec7, Ec8⟩ := cells_core E;have Elt := (ltH E);go_wp2_with fail
          clear Ec0 Ec1 Ec2 Ec3 Ec4 Ec5 Ec6 Ec7 Ec8 Elt;refine (H5.out _ B).mono ?_;rintro e M ⟨rfl, a⟩;have iA : K.heap.size ≤ M.heap.size := a.size;replace B := below_step B a;replace E := row_keep a E;clear a;obtain ⟨Ec0, Ec1, Ec2, Ec3, Ec4, Ec5, Ec6, Ec7, Ec8⟩ := cells_core E;have Elt := (ltH E);have d : Hid _ := B;clear B E;go_wp2;go_ret
          exact ⟨by simp [Hha.out, Hhk0.out, Hhk1.out, Hhk2.out, Hhk3.out, Hht.out, Prod.ext_iff], d.out⟩
       ·have qA : (x.2.2.2.2.2 == 0) = false := by simp [V]
        have Hht : Hid (¬ x.2.2.2.2.2 = 0) := V;clear V;have B := Below.refl w.heap.size w;go_enter Tryz.func74, Tryz.ntmps74;go_upto_region 1 with fail
        generalize n : w.alloc _ = R;have E := boxH n;have f := boxB n;have b := boxL n;clear n;replace B := below_step B f;clear f;have j := lE b;have i := lE b.symm;clear b;obtain ⟨Ec0, Ec1, Ec2, Ec3, Ec4, Ec5, Ec6, Ec7, Ec8⟩ := cells_core E;have Elt := (ltH E);go_wp2_with fail
        clear Ec0 Ec1 Ec2 Ec3 Ec4 Ec5 Ec6 Ec7 Ec8 Elt;refine (D.out _ B).mono ?_;rintro e O ⟨rfl, a⟩;have BA : R.heap.size ≤ O.heap.size := a.size;replace B := below_step B a;replace E := row_keep a E;clear a;obtain ⟨Ec0, Ec1, Ec2, Ec3, Ec4, Ec5, Ec6, Ec7, Ec8⟩ := cells_core E;have Elt := (ltH E);have d : Hid _ := B;clear B E;go_wp2;go_ret
        exact ⟨by simp [Hha.out, Hhk0.out, Hhk1.out, Hhk2.out, Hhk3.out, Hht.out, Prod.ext_iff], d.out⟩
      ·have fA : (x.2.1.2.2.2 == 0) = false := by simp [C]
       have Hhk3 : Hid (¬ x.2.1.2.2.2 = 0) := C;clear C;have B := Below.refl w.heap.size w;go_enter Tryz.func74, Tryz.ntmps74;go_upto_region 1 with fail
       generalize o : w.alloc _ = J;have E := boxH o;have f := boxB o;have b := boxL o;clear o;replace B := below_step B f;clear f;have j := lE b;have i := lE b.symm;clear b;obtain ⟨Ec0, Ec1, Ec2, Ec3, Ec4, Ec5, Ec6, Ec7, Ec8⟩ := cells_core E;have Elt := (ltH E);go_wp2_with fail
       clear Ec0 Ec1 Ec2 Ec3 Ec4 Ec5 Ec6 Ec7 Ec8 Elt;refine (D.out _ B).mono ?_;rintro e T ⟨rfl, a⟩;have aA : J.heap.size ≤ T.heap.size := a.size;replace B := below_step B a;replace E := row_keep a E;clear a;obtain ⟨Ec0, Ec1, Ec2, Ec3, Ec4, Ec5, Ec6, Ec7, Ec8⟩ := cells_core E;have Elt := (ltH E);have d : Hid _ := B;clear B E;go_wp2;go_ret
       exact ⟨by simp [Hha.out, Hhk0.out, Hhk1.out, Hhk2.out, Hhk3.out, Prod.ext_iff], d.out⟩
     ·have jA : (x.2.1.2.2.1 == 0) = false := by simp [F]
      have Hhk2 : Hid (¬ x.2.1.2.2.1 = 0) := F;clear F;have B := Below.refl w.heap.size w;go_enter Tryz.func74, Tryz.ntmps74;go_upto_region 1 with fail
      generalize c : w.alloc _ = u10w;have E := boxH c;have f := boxB c;have b := boxL c;clear c;replace B := below_step B f;clear f;have j := lE b;have i := lE b.symm;clear b;obtain ⟨Ec0, Ec1, Ec2, Ec3, Ec4, Ec5, Ec6, Ec7, Ec8⟩ := cells_core E;have Elt := (ltH E);go_wp2_with fail
      clear Ec0 Ec1 Ec2 Ec3 Ec4 Ec5 Ec6 Ec7 Ec8 Elt;refine (D.out _ B).mono ?_;rintro e p ⟨rfl, a⟩;have S : u10w.heap.size ≤ p.heap.size := a.size;replace B := below_step B a;replace E := row_keep a E;clear a;obtain ⟨Ec0, Ec1, Ec2, Ec3, Ec4, Ec5, Ec6, Ec7, Ec8⟩ := cells_core E;have Elt := (ltH E);have d : Hid _ := B;clear B E;go_wp2;go_ret
      exact ⟨by simp [Hha.out, Hhk0.out, Hhk1.out, Hhk2.out, Prod.ext_iff], d.out⟩
    ·have dA : (x.2.1.2.1 == 0) = false := by simp [z]
     have Hhk1 : Hid (¬ x.2.1.2.1 = 0) := z;clear z;have B := Below.refl w.heap.size w;go_enter Tryz.func74, Tryz.ntmps74;go_upto_region 1 with fail
     generalize k : w.alloc _ = I;have E := boxH k;have f := boxB k;have b := boxL k;clear k;replace B := below_step B f;clear f;have j := lE b;have i := lE b.symm;clear b;obtain ⟨Ec0, Ec1, Ec2, Ec3, Ec4, Ec5, Ec6, Ec7, Ec8⟩ := cells_core E;have Elt := (ltH E);go_wp2_with fail
     clear Ec0 Ec1 Ec2 Ec3 Ec4 Ec5 Ec6 Ec7 Ec8 Elt;refine (D.out _ B).mono ?_;rintro e eA ⟨rfl, a⟩;have pA : I.heap.size ≤ eA.heap.size := a.size;replace B := below_step B a;replace E := row_keep a E;clear a;obtain ⟨Ec0, Ec1, Ec2, Ec3, Ec4, Ec5, Ec6, Ec7, Ec8⟩ := cells_core E;have Elt := (ltH E);have d : Hid _ := B;clear B E;go_wp2;go_ret
     exact ⟨by simp [Hha.out, Hhk0.out, Hhk1.out, Prod.ext_iff], d.out⟩
   ·have gA : (x.2.1.1 == 0) = false := by simp [y]
    have Hhk0 : Hid (¬ x.2.1.1 = 0) := y;clear y;have B := Below.refl w.heap.size w;go_enter Tryz.func74, Tryz.ntmps74;go_upto_region 1 with fail
    generalize l : w.alloc _ = u14w;have E := boxH l;have f := boxB l;have b := boxL l;clear l;replace B := below_step B f;clear f;have j := lE b;have i := lE b.symm;clear b;obtain ⟨Ec0, Ec1, Ec2, Ec3, Ec4, Ec5, Ec6, Ec7, Ec8⟩ := cells_core E;have Elt := (ltH E);go_wp2_with fail
    clear Ec0 Ec1 Ec2 Ec3 Ec4 Ec5 Ec6 Ec7 Ec8 Elt;refine (D.out _ B).mono ?_;rintro e cA ⟨rfl, a⟩;have rA : u14w.heap.size ≤ cA.heap.size := a.size;replace B := below_step B a;replace E := row_keep a E;clear a;obtain ⟨Ec0, Ec1, Ec2, Ec3, Ec4, Ec5, Ec6, Ec7, Ec8⟩ := cells_core E;have Elt := (ltH E);have d : Hid _ := B;clear B E;go_wp2;go_ret
    exact ⟨by simp [Hha.out, Hhk0.out, Prod.ext_iff], d.out⟩
  ·have U : (x.1 == 5) = false := by simp [A]
   have Hha : Hid (¬ x.1 = 5) := A;clear A;have B := Below.refl w.heap.size w;go_enter Tryz.func74, Tryz.ntmps74;go_upto_region 1 with fail
   generalize m : w.alloc _ = u16w;have E := boxH m;have f := boxB m;have b := boxL m;clear m;replace B := below_step B f;clear f;have j := lE b;have i := lE b.symm;clear b;obtain ⟨Ec0, Ec1, Ec2, Ec3, Ec4, Ec5, Ec6, Ec7, Ec8⟩ := cells_core E;have Elt := (ltH E);go_wp2_with fail
   clear Ec0 Ec1 Ec2 Ec3 Ec4 Ec5 Ec6 Ec7 Ec8 Elt;refine (D.out _ B).mono ?_;rintro e Z ⟨rfl, a⟩;have sA : u16w.heap.size ≤ Z.heap.size := a.size;replace B := below_step B a;replace E := row_keep a E;clear a;obtain ⟨Ec0, Ec1, Ec2, Ec3, Ec4, Ec5, Ec6, Ec7, Ec8⟩ := cells_core E;have Elt := (ltH E);have d : Hid _ := B;clear B E;go_wp2;go_ret
   exact ⟨by simp [Hha.out, Prod.ext_iff], d.out⟩
 ·rw [L] at D;rw [if_pos rfl];unfold evC;clear L H3 H4 H5;generalize opOkD x.2.1 = q2 at X ⊢;by_cases A : x.2.2.1 = 0
  ·have U : (x.2.2.1 == 0) = true := by simp [A]
   have Hha : Hid (x.2.2.1 = 0) := A;clear A;by_cases G : x.2.2.2.1 = 0
   ·have oA : (x.2.2.2.1 == 0) = true := by simp [G]
    have Hhb : Hid (x.2.2.2.1 = 0) := G;clear G;by_cases Y : x.2.2.2.2.1.length = 0
    ·have lA : ((x.2.2.2.2.1.length : Int) == 0) = true := by simp [Y]
     have Hhd : Hid (x.2.2.2.2.1 = []) := List.length_eq_zero_iff.1 Y;clear Y;have B := Below.refl w.heap.size w;go_enter Tryz.func74, Tryz.ntmps74;go_upto_region 1 with fail
     generalize g : w.alloc _ = u1w;have E := boxH g;have f := boxB g;have b := boxL g;clear g;replace B := below_step B f;clear f;have j := lE b;have i := lE b.symm;clear b;obtain ⟨Ec0, Ec1, Ec2, Ec3, Ec4, Ec5, Ec6, Ec7, Ec8⟩ := cells_core E;have Elt := (ltH E);go_wp2_with fail
     clear Ec0 Ec1 Ec2 Ec3 Ec4 Ec5 Ec6 Ec7 Ec8 Elt;refine (D.out _ B).mono ?_;rintro e H ⟨rfl, a⟩;have bA : u1w.heap.size ≤ H.heap.size := a.size;replace B := below_step B a;replace E := row_keep a E;clear a;obtain ⟨Ec0, Ec1, Ec2, Ec3, Ec4, Ec5, Ec6, Ec7, Ec8⟩ := cells_core E;have Elt := (ltH E);go_wp2_with fail
     clear Ec0 Ec1 Ec2 Ec3 Ec4 Ec5 Ec6 Ec7 Ec8 Elt;refine (X.out _ B).mono ?_;rintro e N ⟨rfl, a⟩;have kA : H.heap.size ≤ N.heap.size := a.size;replace B := below_step B a;replace E := row_keep a E;clear a;cases q2
     ·skip
      obtain ⟨Ec0, Ec1, Ec2, Ec3, Ec4, Ec5, Ec6, Ec7, Ec8⟩ := cells_core E;have Elt := (ltH E);have d : Hid _ := B;clear B E;go_wp2;go_ret
      exact ⟨rfl, d.out⟩
     ·skip
      obtain ⟨Ec0, Ec1, Ec2, Ec3, Ec4, Ec5, Ec6, Ec7, Ec8⟩ := cells_core E;have Elt := (ltH E);have d : Hid _ := B;clear B E;go_wp2;go_ret
      exact ⟨by simp [Hha.out, Hhb.out, Hhd.out], d.out⟩
    ·have lA : ((x.2.2.2.2.1.length : Int) == 0) = false := by simp [Y]
     have Hhd : Hid (¬ x.2.2.2.2.1 = []) := fun q => Y (List.length_eq_zero_iff.2 q);clear Y;have B := Below.refl w.heap.size w;go_enter Tryz.func74, Tryz.ntmps74;go_upto_region 1 with fail
     generalize s : w.alloc _ = K;have E := boxH s;have f := boxB s;have b := boxL s;clear s;replace B := below_step B f;clear f;have j := lE b;have i := lE b.symm;clear b;obtain ⟨Ec0, Ec1, Ec2, Ec3, Ec4, Ec5, Ec6, Ec7, Ec8⟩ := cells_core E;have Elt := (ltH E);go_wp2_with fail
     clear Ec0 Ec1 Ec2 Ec3 Ec4 Ec5 Ec6 Ec7 Ec8 Elt;refine (D.out _ B).mono ?_;rintro e M ⟨rfl, a⟩;have iA : K.heap.size ≤ M.heap.size := a.size;replace B := below_step B a;replace E := row_keep a E;clear a;obtain ⟨Ec0, Ec1, Ec2, Ec3, Ec4, Ec5, Ec6, Ec7, Ec8⟩ := cells_core E;have Elt := (ltH E);go_wp2_with fail
     clear Ec0 Ec1 Ec2 Ec3 Ec4 Ec5 Ec6 Ec7 Ec8 Elt;refine (X.out _ B).mono ?_;rintro e R ⟨rfl, a⟩;have CA : M.heap.size ≤ R.heap.size := a.size;replace B := below_step B a;replace E := row_keep a E;clear a;cases q2
     ·skip
      obtain ⟨Ec0, Ec1, Ec2, Ec3, Ec4, Ec5, Ec6, Ec7, Ec8⟩ := cells_core E;have Elt := (ltH E);have d : Hid _ := B;clear B E;go_wp2;go_ret
      exact ⟨rfl, d.out⟩
     ·skip
      obtain ⟨Ec0, Ec1, Ec2, Ec3, Ec4, Ec5, Ec6, Ec7, Ec8⟩ := cells_core E;have Elt := (ltH E);have d : Hid _ := B;clear B E;go_wp2;go_ret
      exact ⟨by simp [Hha.out, Hhb.out, Hhd.out], d.out⟩
   ·have oA : (x.2.2.2.1 == 0) = false := by simp [G]
    have Hhb : Hid (¬ x.2.2.2.1 = 0) := G;clear G;have B := Below.refl w.heap.size w;go_enter Tryz.func74, Tryz.ntmps74;go_upto_region 1 with fail
    generalize v : w.alloc _ = O;have E := boxH v;have f := boxB v;have b := boxL v;clear v;replace B := below_step B f;clear f;have j := lE b;have i := lE b.symm;clear b;obtain ⟨Ec0, Ec1, Ec2, Ec3, Ec4, Ec5, Ec6, Ec7, Ec8⟩ := cells_core E;have Elt := (ltH E);go_wp2_with fail
    clear Ec0 Ec1 Ec2 Ec3 Ec4 Ec5 Ec6 Ec7 Ec8 Elt;refine (D.out _ B).mono ?_;rintro e J ⟨rfl, a⟩;have zA : O.heap.size ≤ J.heap.size := a.size;replace B := below_step B a;replace E := row_keep a E;clear a;obtain ⟨Ec0, Ec1, Ec2, Ec3, Ec4, Ec5, Ec6, Ec7, Ec8⟩ := cells_core E;have Elt := (ltH E);go_wp2_with fail
    clear Ec0 Ec1 Ec2 Ec3 Ec4 Ec5 Ec6 Ec7 Ec8 Elt;refine (X.out _ B).mono ?_;rintro e T ⟨rfl, a⟩;have aA : J.heap.size ≤ T.heap.size := a.size;replace B := below_step B a;replace E := row_keep a E;clear a;cases q2
    ·skip
     obtain ⟨Ec0, Ec1, Ec2, Ec3, Ec4, Ec5, Ec6, Ec7, Ec8⟩ := cells_core E;have Elt := (ltH E);have d : Hid _ := B;clear B E;go_wp2;go_ret
     exact ⟨rfl, d.out⟩
    ·skip
     obtain ⟨Ec0, Ec1, Ec2, Ec3, Ec4, Ec5, Ec6, Ec7, Ec8⟩ := cells_core E;have Elt := (ltH E);have d : Hid _ := B;clear B E;go_wp2;go_ret
     exact ⟨by simp [Hha.out, Hhb.out], d.out⟩
  ·have U : (x.2.2.1 == 0) = false := by simp [A]
   have Hha : Hid (¬ x.2.2.1 = 0) := A;clear A;have B := Below.refl w.heap.size w;go_enter Tryz.func74, Tryz.ntmps74;go_upto_region 1 with fail
   generalize c : w.alloc _ = u10w;have E := boxH c;have f := boxB c;have b := boxL c;clear c;replace B := below_step B f;clear f;have j := lE b;have i := lE b.symm;clear b;obtain ⟨Ec0, Ec1, Ec2, Ec3, Ec4, Ec5, Ec6, Ec7, Ec8⟩ := cells_core E;have Elt := (ltH E);go_wp2_with fail
   clear Ec0 Ec1 Ec2 Ec3 Ec4 Ec5 Ec6 Ec7 Ec8 Elt;refine (D.out _ B).mono ?_;rintro e p ⟨rfl, a⟩;have S : u10w.heap.size ≤ p.heap.size := a.size;replace B := below_step B a;replace E := row_keep a E;clear a;obtain ⟨Ec0, Ec1, Ec2, Ec3, Ec4, Ec5, Ec6, Ec7, Ec8⟩ := cells_core E;have Elt := (ltH E);go_wp2_with fail
   clear Ec0 Ec1 Ec2 Ec3 Ec4 Ec5 Ec6 Ec7 Ec8 Elt;refine (X.out _ B).mono ?_;rintro e I ⟨rfl, a⟩;have vA : p.heap.size ≤ I.heap.size := a.size;replace B := below_step B a;replace E := row_keep a E;clear a;cases q2
   ·skip
    obtain ⟨Ec0, Ec1, Ec2, Ec3, Ec4, Ec5, Ec6, Ec7, Ec8⟩ := cells_core E;have Elt := (ltH E);have d : Hid _ := B;clear B E;go_wp2;go_ret
    exact ⟨rfl, d.out⟩
   ·skip
    obtain ⟨Ec0, Ec1, Ec2, Ec3, Ec4, Ec5, Ec6, Ec7, Ec8⟩ := cells_core E;have Elt := (ltH E);have d : Hid _ := B;clear B E;go_wp2;go_ret
    exact ⟨by simp [Hha.out], d.out⟩
def rowsIn (l : Int) (x : CoreD) : Bool := x.1.1.all fun row => row.all fun u => decide (u.1 < l)
def linesIn (l : Int) (x : CoreD) : Bool := rowsIn l x && decide (x.2.2.2.2.1.1 < l)
theorem rows_no {l : Int} {x : CoreD} {j i : Nat} {row : List WayD} {u : WayD} (h1 : x.1.1[j]? = some row) (h2 : row[i]? = some u) (h : ¬ u.1 < l) : linesIn l x = false := by
 have a : row.all (fun u => decide (u.1 < l)) = false := all_not h2 (decide_eq_false h);have b : rowsIn l x = false := all_not h1 a;unfold linesIn;rw [b, Bool.false_and]
theorem rows_yes {l : Int} {x : CoreD} (h : ∀ (j : Nat) row, x.1.1[j]? = some row → ∀ (i : Nat) u, row[i]? = some u → u.1 < l) : rowsIn l x = true := by
 refine List.all_eq_true.2 fun row hr => List.all_eq_true.2 fun u hu => ?_;obtain ⟨j, b⟩ := List.getElem?_of_mem hr;obtain ⟨i, a⟩ := List.getElem?_of_mem hu;exact decide_eq_true (h j row b i u a)
theorem l15Lines_u (l : Int) (K : List Value) (x : CoreD) (w : World) (h : coreR.rd w K x) :
    Calls Tryz.prog 73 #[aggV K, nI l] w fun e w' => e = .returned (.bool (linesIn l x)) ∧ Bl w w' := by
 obtain ⟨v0, v1, v2, v5, v6, v7, v8, rfl, r0, r1, i2, i3, r4, r5⟩ := core_rd h;obtain ⟨O, c0, b0, d0, e0, A, D, -, -, k0, -⟩ := cache_rd r0;simp only [List.cons.injEq, and_true] at e0;obtain ⟨rfl, rfl⟩ := e0;obtain ⟨a1, c1, e1, -⟩ := r1;simp only [List.cons.injEq, and_true] at e1;obtain rfl := e1;obtain ⟨a4, c4, e4, -⟩ := way_rd r4;simp only [List.cons.injEq, and_true] at e4;obtain ⟨rfl, rfl, rfl⟩ := e4;obtain ⟨Z, c5, Y, -, -, -⟩ := r5;simp only [List.cons.injEq, and_true] at Y;obtain rfl := Y;change Calls Tryz.prog 73 #[.agg #[sL O x.1.1.length c0, sL b0 x.1.2.length d0, sL a1 x.2.1.length c1, nI x.2.2.1, nI x.2.2.2.1, nI x.2.2.2.2.1.1, nI x.2.2.2.2.1.2.1, sL a4 x.2.2.2.2.1.2.2.length c4, sL Z x.2.2.2.2.2.length c5], nI l] w _
 have IA : x.1.1.length ≤ 9223372036854775807 := Nat.le_trans A D;have HS : Hid (∀ W, Bl w W → SlRd waysR W O x.1.1) := fun W hb => slrd_next k0 hb;have HN : Hid (∀ (j i : Nat) a u, x.1.1[j]? = some a → a[i]? = some u → ¬ u.1 < l → linesIn l x = false) := fun j i a u h1 h2 h3 => rows_no h1 h2 h3;have HY : Hid ((∀ (j : Nat) a, x.1.1[j]? = some a → ∀ (i : Nat) u, a[i]? = some u → u.1 < l) → rowsIn l x = true) := fun q => rows_yes q;clear h r0 r4 i2 i3 A D k0;go_enter Tryz.func73, Tryz.ntmps73;go_wp2;generalize o : w.alloc _ = W0;have X := boxH o;have B := boxB o;clear o;go_loopw [5] (fun s wr => ∃ j : Nat, j ≤ x.1.1.length ∧ s = nI j ∧ (∀ (q : Nat) a, q < j → x.1.1[q]? = some a → ∀ (i : Nat) u, a[i]? = some u → u.1 < l) ∧ Bl w wr ∧ wr.heap[w.heap.size]? = some (.cells #[sL O x.1.1.length c0, sL b0 x.1.2.length d0, sL a1 x.2.1.length c1, nI x.2.2.1, nI x.2.2.2.1, nI x.2.2.2.2.1.1, nI x.2.2.2.2.1.2.1, sL a4 x.2.2.2.2.1.2.2.length c4, sL Z x.2.2.2.2.2.length c5] 98 (0, 0))) (fun s _ => x.1.1.length - (intOf s).toNat)
 case atStart => exact ⟨0, Nat.zero_le _, rfl, fun q a hq => by omega, B, X⟩
 case round =>
  clear X B;obtain ⟨j, hj, rfl, z, C, XX⟩ := hrel;obtain ⟨p0, p1, p2, p3, p4, p5, p6, p7, p8⟩ := cells_core XX;by_cases U : j < x.1.1.length
  ·have iA : (j : Int) < (x.1.1.length : Int) := by omega
   obtain ⟨a, R⟩ : ∃ a, x.1.1[j]? = some a := ⟨_, List.getElem?_eq_getElem U⟩;obtain ⟨bb, p, K, H, E, b⟩ := slrd_at (HS.out _ C) R;subst H;obtain ⟨H, rc, rfl, n1, n2, n⟩ := E;have G := b 0 _ rfl;rw [show p + (j * waysR.size + 0) = p + j from by rw [show waysR.size = 1 from rfl]; omega] at G;have KA : a.length ≤ 9223372036854775807 := Nat.le_trans n1 n2;have S : Hid (∀ W, Bl wr W → SlRd wayR W H a) := fun W hb => slrd_next n hb;have HX : Hid (x.1.1[j]? = some a) := R;have T : Hid (∀ W, Bl wr W → W.cell? ⟨bb, p + j, none⟩ = some (sL H a.length rc)) := fun W hb => cell_keep hb G (cell_lt G);clear R b n n1 n2 G;go_wp2;go_loopw [6] (fun i wi => ∃ k : Nat, k ≤ a.length ∧ i = nI k ∧ (∀ (q : Nat) u, q < k → a[q]? = some u → u.1 < l) ∧ Bl wr wi) (fun i _ => a.length - (intOf i).toNat)
   case atStart => exact ⟨0, Nat.zero_le _, rfl, fun q u hq => by omega, Below.refl _ _⟩
   case round =>
    obtain ⟨k, hk, rfl, m, v⟩ := hrel;rename_i wi
    have XI := row_keep v XX;obtain ⟨s0, s1, s2, s3, s4, s5, s6, s7, s8⟩ := cells_core XI;have G := T.out _ v;by_cases F : k < a.length
    ·have V : (k : Int) < (a.length : Int) := by omega
     obtain ⟨u, r⟩ : ∃ u, a[k]? = some u := ⟨_, List.getElem?_eq_getElem F⟩;obtain ⟨bu, g, cu, ru, d, y⟩ := slrd_at (S.out _ v) r;subst ru;obtain ⟨ua, uc, rfl, -⟩ := way_rd d;have t0 := y 0 _ rfl;rw [show g + (k * wayR.size + 0) = g + k * 3 from rfl] at t0;have HU : Hid (a[k]? = some u) := r;clear r y d;by_cases c : u.1 < l
     ·have f : ¬ (l ≤ u.1) := by omega
      have M : Hid (u.1 < l) := c;clear c;go_wp2;go_roundw
      case rel =>
       refine ⟨k + 1, by omega, by go_num, fun q u' hq hu' => ?_, v⟩;by_cases N : q < k
       ·exact m q u' N hu'
       ·have : q = k := by omega
        subst this;rw [HU.out] at hu';cases hu'
        exact M.out
      case measure => simp [intOf]; omega
     ·have f : l ≤ u.1 := by omega
      have HF : Hid (linesIn l x = false) := HN.out j k a u HX.out HU.out (by first | exact c | exact f);clear c;have I := below_step C v;go_wp2;go_ret
      exact ⟨ret_bool HF.out.symm, I⟩
    ·have I := below_step C v;have J : Hid (∀ (q : Nat) row', q < j + 1 → x.1.1[q]? = some row' → ∀ (i : Nat) u, row'[i]? = some u → u.1 < l) := fun q row' hq hr i u r => by
      by_cases N : q < j
      ·exact z q row' N hr i u r
      ·have : q = j := by omega
       subst this;rw [HX.out] at hr;cases hr;exact m i u (by have := (List.getElem?_eq_some_iff.1 r).1; omega) r
     go_wp2;go_roundw
     case rel => exact ⟨j + 1, by omega, by go_num, J.out, I, XI⟩
     case measure => simp [intOf]; omega
  ·have HR : Hid (rowsIn l x = true) := HY.out fun q a hr => z q a (by have := (List.getElem?_eq_some_iff.1 hr).1; omega) hr;by_cases hz : x.2.2.2.2.1.1 < l
   ·have L : Hid (x.2.2.2.2.1.1 < l) := hz;go_wp2;go_ret
    exact ⟨by unfold linesIn; rw [HR.out]; simp [L.out], C⟩
   ·have L : Hid (¬ x.2.2.2.2.1.1 < l) := hz;go_wp2;go_ret
    exact ⟨by unfold linesIn; rw [HR.out]; simp [L.out], C⟩
end Go.Proofs.YtdamokokcdcedaaGreatDoor
