import Derived.Test.YtcocbafhcpdheaaGreatDoorT00Box
import Derived.Test.YtcocbafhcpdheaaGreatDoorT31
namespace Go.Proofs.YtcocbafhcpdheaaGreatDoor
set_option maxHeartbeats 4000000
set_option maxRecDepth 20000
open Go.ChangeShapes Go.WideShapes Go.ChangeAt Go.RowKit
set_option linter.unusedVariables false
set_option linter.unusedSimpArgs false
def evC (x : zBr) : Bool := zB2 x.2.1 && (decide (x.2.2.1 = 0) && (decide (x.2.2.2.1 = 0) && decide (x.2.2.2.2.1.length = 0)))
def evP (x : zBr) : Bool := decide (x.1 = 5) && (decide (x.2.1 = (0, 0, 0, 0)) && (decide (x.2.2.2.2.2 = 0) && (zA8 x.2.2.1 0 15 && (zA8 x.2.2.2.1 0 3 && isL x.2.2.2.2.1))))
def evB (x : zBr) : Bool := if zA8 x.1 0 3 then evC x else evP x
theorem zJL (x : zBr) (ea : Option Addr) (ec : Nat) (w : World) (h : zA4 zAG w ea x.2.2.2.2.1) (hl : x.2.2.2.2.1.length ≤ maxLen) :
    Calls Tryz.prog 97 #[.agg #[.int .i64 x.1, .int .i64 x.2.1.1, .int .i64 x.2.1.2.1, .int .i64 x.2.1.2.2.1, .int .i64 x.2.1.2.2.2, .int .i64 x.2.2.1, .int .i64 x.2.2.2.1, .slice ea x.2.2.2.2.1.length ec, .int .i64 x.2.2.2.2.2]] w fun e w' => e = .returned (.bool (evB x)) ∧ Below w.heap.size w w' := by
 have A : Hid _ := fun (W : World) (G : Below w.heap.size w W) => (zAo x.1 0 3 W).mono fun e w' ⟨q, r⟩ => ⟨q, zEO r⟩;have X : Hid _ := fun (W : World) (G : Below w.heap.size w W) => zBH x.2.1.1 x.2.1.2.1 x.2.1.2.2.1 x.2.1.2.2.2 W;have H3 : Hid _ := fun (W : World) (G : Below w.heap.size w W) => (zAo x.2.2.1 0 15 W).mono fun e w' ⟨q, r⟩ => ⟨q, zEO r⟩;have H4 : Hid _ := fun (W : World) (G : Below w.heap.size w W) => (zAo x.2.2.2.1 0 3 W).mono fun e w' ⟨q, r⟩ => ⟨q, zEO r⟩;have H5 : Hid _ := fun (W : World) (G : Below w.heap.size w W) => (zB4 ea x.2.2.2.2.1 ec W (zBv (zAm h G))).mono fun e w' ⟨q, r⟩ => ⟨q, zEO r⟩;have DA : x.2.2.2.2.1.length ≤ 9223372036854775807 := hl;clear h hl;unfold evB;cases J : zA8 x.1 0 3
 ·rw [J] at A;rw [if_neg Bool.false_ne_true];unfold evP;clear J X;generalize zA8 x.2.2.1 0 15 = q3 at H3 ⊢;generalize zA8 x.2.2.2.1 0 3 = q4 at H4 ⊢;generalize isL x.2.2.2.2.1 = q5 at H5 ⊢;by_cases F : x.1 = 5
  ·have S : (x.1 == 5) = true := by simp [F]
   have Hha : Hid (x.1 = 5) := F;clear F;by_cases z : x.2.1.1 = 0
   ·have aA : (x.2.1.1 == 0) = true := by simp [z]
    have Hhk0 : Hid (x.2.1.1 = 0) := z;clear z;by_cases C : x.2.1.2.1 = 0
    ·have iA : (x.2.1.2.1 == 0) = true := by simp [C]
     have Hhk1 : Hid (x.2.1.2.1 = 0) := C;clear C;by_cases y : x.2.1.2.2.1 = 0
     ·have cA : (x.2.1.2.2.1 == 0) = true := by simp [y]
      have Hhk2 : Hid (x.2.1.2.2.1 = 0) := y;clear y;by_cases D : x.2.1.2.2.2 = 0
      ·have eA : (x.2.1.2.2.2 == 0) = true := by simp [D]
       have Hhk3 : Hid (x.2.1.2.2.2 = 0) := D;clear D;by_cases Y : x.2.2.2.2.2 = 0
       ·have mA : (x.2.2.2.2.2 == 0) = true := by simp [Y]
        have Hht : Hid (x.2.2.2.2.2 = 0) := Y;clear Y;have B := Below.refl w.heap.size w;go_enter Tryz.func97, Tryz.ntmps97;go_upto_region 1 with fail
        generalize g : w.alloc _ = u1w;have E := boxH g;have f := boxB g;have b := boxL g;clear g;replace B := zAa B f;clear f;have j := Nat.le_of_eq b;have i := Nat.le_of_eq b.symm;clear b;obtain ⟨Ec0, Ec1, Ec2, Ec3, Ec4, Ec5, Ec6, Ec7, Ec8⟩ := zAh E;have Elt := (ltH E);go_wp2_with fail
        clear Ec0 Ec1 Ec2 Ec3 Ec4 Ec5 Ec6 Ec7 Ec8 Elt;refine (A.out _ B).mono ?_;rintro e I ⟨rfl, a⟩;have jA : u1w.heap.size ≤ I.heap.size := a.size;replace B := zAa B a;replace E := zAb a E;clear a;obtain ⟨Ec0, Ec1, Ec2, Ec3, Ec4, Ec5, Ec6, Ec7, Ec8⟩ := zAh E;have Elt := (ltH E);go_wp2_with fail
        clear Ec0 Ec1 Ec2 Ec3 Ec4 Ec5 Ec6 Ec7 Ec8 Elt;refine (H3.out _ B).mono ?_;rintro e M ⟨rfl, a⟩;have kA : I.heap.size ≤ M.heap.size := a.size;replace B := zAa B a;replace E := zAb a E;clear a;cases q3
        ·skip
         obtain ⟨Ec0, Ec1, Ec2, Ec3, Ec4, Ec5, Ec6, Ec7, Ec8⟩ := zAh E;have Elt := (ltH E);have d : Hid _ := B;clear B E;go_wp2;go_ret
         exact ⟨by simp [Hha.out, Hhk0.out, Hhk1.out, Hhk2.out, Hhk3.out, Hht.out, Prod.ext_iff], d.out⟩
        ·skip
         obtain ⟨Ec0, Ec1, Ec2, Ec3, Ec4, Ec5, Ec6, Ec7, Ec8⟩ := zAh E;have Elt := (ltH E);go_wp2_with fail
         clear Ec0 Ec1 Ec2 Ec3 Ec4 Ec5 Ec6 Ec7 Ec8 Elt;refine (H4.out _ B).mono ?_;rintro e L ⟨rfl, a⟩;have CA : M.heap.size ≤ L.heap.size := a.size;replace B := zAa B a;replace E := zAb a E;clear a;cases q4
         ·skip
          obtain ⟨Ec0, Ec1, Ec2, Ec3, Ec4, Ec5, Ec6, Ec7, Ec8⟩ := zAh E;have Elt := (ltH E);have d : Hid _ := B;clear B E;go_wp2;go_ret
          exact ⟨by simp [Hha.out, Hhk0.out, Hhk1.out, Hhk2.out, Hhk3.out, Hht.out, Prod.ext_iff], d.out⟩
         ·skip
          obtain ⟨Ec0, Ec1, Ec2, Ec3, Ec4, Ec5, Ec6, Ec7, Ec8⟩ := zAh E;have Elt := (ltH E);go_wp2_with fail
          clear Ec0 Ec1 Ec2 Ec3 Ec4 Ec5 Ec6 Ec7 Ec8 Elt;refine (H5.out _ B).mono ?_;rintro e K ⟨rfl, a⟩;have gA : L.heap.size ≤ K.heap.size := a.size;replace B := zAa B a;replace E := zAb a E;clear a;obtain ⟨Ec0, Ec1, Ec2, Ec3, Ec4, Ec5, Ec6, Ec7, Ec8⟩ := zAh E;have Elt := (ltH E);have d : Hid _ := B;clear B E;go_wp2;go_ret
          exact ⟨by simp [Hha.out, Hhk0.out, Hhk1.out, Hhk2.out, Hhk3.out, Hht.out, Prod.ext_iff], d.out⟩
       ·have mA : (x.2.2.2.2.2 == 0) = false := by simp [Y]
        have Hht : Hid (¬ x.2.2.2.2.2 = 0) := Y;clear Y;have B := Below.refl w.heap.size w;go_enter Tryz.func97, Tryz.ntmps97;go_upto_region 1 with fail
        generalize p : w.alloc _ = T;have E := boxH p;have f := boxB p;have b := boxL p;clear p;replace B := zAa B f;clear f;have j := Nat.le_of_eq b;have i := Nat.le_of_eq b.symm;clear b;obtain ⟨Ec0, Ec1, Ec2, Ec3, Ec4, Ec5, Ec6, Ec7, Ec8⟩ := zAh E;have Elt := (ltH E);go_wp2_with fail
        clear Ec0 Ec1 Ec2 Ec3 Ec4 Ec5 Ec6 Ec7 Ec8 Elt;refine (A.out _ B).mono ?_;rintro e U ⟨rfl, a⟩;have BA : T.heap.size ≤ U.heap.size := a.size;replace B := zAa B a;replace E := zAb a E;clear a;obtain ⟨Ec0, Ec1, Ec2, Ec3, Ec4, Ec5, Ec6, Ec7, Ec8⟩ := zAh E;have Elt := (ltH E);have d : Hid _ := B;clear B E;go_wp2;go_ret
        exact ⟨by simp [Hha.out, Hhk0.out, Hhk1.out, Hhk2.out, Hhk3.out, Hht.out, Prod.ext_iff], d.out⟩
      ·have eA : (x.2.1.2.2.2 == 0) = false := by simp [D]
       have Hhk3 : Hid (¬ x.2.1.2.2.2 = 0) := D;clear D;have B := Below.refl w.heap.size w;go_enter Tryz.func97, Tryz.ntmps97;go_upto_region 1 with fail
       generalize s : w.alloc _ = N;have E := boxH s;have f := boxB s;have b := boxL s;clear s;replace B := zAa B f;clear f;have j := Nat.le_of_eq b;have i := Nat.le_of_eq b.symm;clear b;obtain ⟨Ec0, Ec1, Ec2, Ec3, Ec4, Ec5, Ec6, Ec7, Ec8⟩ := zAh E;have Elt := (ltH E);go_wp2_with fail
       clear Ec0 Ec1 Ec2 Ec3 Ec4 Ec5 Ec6 Ec7 Ec8 Elt;refine (A.out _ B).mono ?_;rintro e R ⟨rfl, a⟩;have bA : N.heap.size ≤ R.heap.size := a.size;replace B := zAa B a;replace E := zAb a E;clear a;obtain ⟨Ec0, Ec1, Ec2, Ec3, Ec4, Ec5, Ec6, Ec7, Ec8⟩ := zAh E;have Elt := (ltH E);have d : Hid _ := B;clear B E;go_wp2;go_ret
       exact ⟨by simp [Hha.out, Hhk0.out, Hhk1.out, Hhk2.out, Hhk3.out, Prod.ext_iff], d.out⟩
     ·have cA : (x.2.1.2.2.1 == 0) = false := by simp [y]
      have Hhk2 : Hid (¬ x.2.1.2.2.1 = 0) := y;clear y;have B := Below.refl w.heap.size w;go_enter Tryz.func97, Tryz.ntmps97;go_upto_region 1 with fail
      generalize c : w.alloc _ = u10w;have E := boxH c;have f := boxB c;have b := boxL c;clear c;replace B := zAa B f;clear f;have j := Nat.le_of_eq b;have i := Nat.le_of_eq b.symm;clear b;obtain ⟨Ec0, Ec1, Ec2, Ec3, Ec4, Ec5, Ec6, Ec7, Ec8⟩ := zAh E;have Elt := (ltH E);go_wp2_with fail
      clear Ec0 Ec1 Ec2 Ec3 Ec4 Ec5 Ec6 Ec7 Ec8 Elt;refine (A.out _ B).mono ?_;rintro e o ⟨rfl, a⟩;have O : u10w.heap.size ≤ o.heap.size := a.size;replace B := zAa B a;replace E := zAb a E;clear a;obtain ⟨Ec0, Ec1, Ec2, Ec3, Ec4, Ec5, Ec6, Ec7, Ec8⟩ := zAh E;have Elt := (ltH E);have d : Hid _ := B;clear B E;go_wp2;go_ret
      exact ⟨by simp [Hha.out, Hhk0.out, Hhk1.out, Hhk2.out, Prod.ext_iff], d.out⟩
    ·have iA : (x.2.1.2.1 == 0) = false := by simp [C]
     have Hhk1 : Hid (¬ x.2.1.2.1 = 0) := C;clear C;have B := Below.refl w.heap.size w;go_enter Tryz.func97, Tryz.ntmps97;go_upto_region 1 with fail
     generalize k : w.alloc _ = H;have E := boxH k;have f := boxB k;have b := boxL k;clear k;replace B := zAa B f;clear f;have j := Nat.le_of_eq b;have i := Nat.le_of_eq b.symm;clear b;obtain ⟨Ec0, Ec1, Ec2, Ec3, Ec4, Ec5, Ec6, Ec7, Ec8⟩ := zAh E;have Elt := (ltH E);go_wp2_with fail
     clear Ec0 Ec1 Ec2 Ec3 Ec4 Ec5 Ec6 Ec7 Ec8 Elt;refine (A.out _ B).mono ?_;rintro e dA ⟨rfl, a⟩;have sA : H.heap.size ≤ dA.heap.size := a.size;replace B := zAa B a;replace E := zAb a E;clear a;obtain ⟨Ec0, Ec1, Ec2, Ec3, Ec4, Ec5, Ec6, Ec7, Ec8⟩ := zAh E;have Elt := (ltH E);have d : Hid _ := B;clear B E;go_wp2;go_ret
     exact ⟨by simp [Hha.out, Hhk0.out, Hhk1.out, Prod.ext_iff], d.out⟩
   ·have aA : (x.2.1.1 == 0) = false := by simp [z]
    have Hhk0 : Hid (¬ x.2.1.1 = 0) := z;clear z;have B := Below.refl w.heap.size w;go_enter Tryz.func97, Tryz.ntmps97;go_upto_region 1 with fail
    generalize m : w.alloc _ = u14w;have E := boxH m;have f := boxB m;have b := boxL m;clear m;replace B := zAa B f;clear f;have j := Nat.le_of_eq b;have i := Nat.le_of_eq b.symm;clear b;obtain ⟨Ec0, Ec1, Ec2, Ec3, Ec4, Ec5, Ec6, Ec7, Ec8⟩ := zAh E;have Elt := (ltH E);go_wp2_with fail
    clear Ec0 Ec1 Ec2 Ec3 Ec4 Ec5 Ec6 Ec7 Ec8 Elt;refine (A.out _ B).mono ?_;rintro e fA ⟨rfl, a⟩;have pA : u14w.heap.size ≤ fA.heap.size := a.size;replace B := zAa B a;replace E := zAb a E;clear a;obtain ⟨Ec0, Ec1, Ec2, Ec3, Ec4, Ec5, Ec6, Ec7, Ec8⟩ := zAh E;have Elt := (ltH E);have d : Hid _ := B;clear B E;go_wp2;go_ret
    exact ⟨by simp [Hha.out, Hhk0.out, Prod.ext_iff], d.out⟩
  ·have S : (x.1 == 5) = false := by simp [F]
   have Hha : Hid (¬ x.1 = 5) := F;clear F;have B := Below.refl w.heap.size w;go_enter Tryz.func97, Tryz.ntmps97;go_upto_region 1 with fail
   generalize l : w.alloc _ = u16w;have E := boxH l;have f := boxB l;have b := boxL l;clear l;replace B := zAa B f;clear f;have j := Nat.le_of_eq b;have i := Nat.le_of_eq b.symm;clear b;obtain ⟨Ec0, Ec1, Ec2, Ec3, Ec4, Ec5, Ec6, Ec7, Ec8⟩ := zAh E;have Elt := (ltH E);go_wp2_with fail
   clear Ec0 Ec1 Ec2 Ec3 Ec4 Ec5 Ec6 Ec7 Ec8 Elt;refine (A.out _ B).mono ?_;rintro e Z ⟨rfl, a⟩;have vA : u16w.heap.size ≤ Z.heap.size := a.size;replace B := zAa B a;replace E := zAb a E;clear a;obtain ⟨Ec0, Ec1, Ec2, Ec3, Ec4, Ec5, Ec6, Ec7, Ec8⟩ := zAh E;have Elt := (ltH E);have d : Hid _ := B;clear B E;go_wp2;go_ret
   exact ⟨by simp [Hha.out, Prod.ext_iff], d.out⟩
 ·rw [J] at A;rw [if_pos rfl];unfold evC;clear J H3 H4 H5;generalize zB2 x.2.1 = q2 at X ⊢;by_cases F : x.2.2.1 = 0
  ·have S : (x.2.2.1 == 0) = true := by simp [F]
   have Hha : Hid (x.2.2.1 = 0) := F;clear F;by_cases G : x.2.2.2.1 = 0
   ·have yA : (x.2.2.2.1 == 0) = true := by simp [G]
    have Hhb : Hid (x.2.2.2.1 = 0) := G;clear G;by_cases V : x.2.2.2.2.1.length = 0
    ·have oA : ((x.2.2.2.2.1.length : Int) == 0) = true := by simp [V]
     have Hhd : Hid (x.2.2.2.2.1 = []) := List.length_eq_zero_iff.1 V;clear V;have B := Below.refl w.heap.size w;go_enter Tryz.func97, Tryz.ntmps97;go_upto_region 1 with fail
     generalize g : w.alloc _ = u1w;have E := boxH g;have f := boxB g;have b := boxL g;clear g;replace B := zAa B f;clear f;have j := Nat.le_of_eq b;have i := Nat.le_of_eq b.symm;clear b;obtain ⟨Ec0, Ec1, Ec2, Ec3, Ec4, Ec5, Ec6, Ec7, Ec8⟩ := zAh E;have Elt := (ltH E);go_wp2_with fail
     clear Ec0 Ec1 Ec2 Ec3 Ec4 Ec5 Ec6 Ec7 Ec8 Elt;refine (A.out _ B).mono ?_;rintro e I ⟨rfl, a⟩;have jA : u1w.heap.size ≤ I.heap.size := a.size;replace B := zAa B a;replace E := zAb a E;clear a;obtain ⟨Ec0, Ec1, Ec2, Ec3, Ec4, Ec5, Ec6, Ec7, Ec8⟩ := zAh E;have Elt := (ltH E);go_wp2_with fail
     clear Ec0 Ec1 Ec2 Ec3 Ec4 Ec5 Ec6 Ec7 Ec8 Elt;refine (X.out _ B).mono ?_;rintro e M ⟨rfl, a⟩;have kA : I.heap.size ≤ M.heap.size := a.size;replace B := zAa B a;replace E := zAb a E;clear a;cases q2
     ·skip
      obtain ⟨Ec0, Ec1, Ec2, Ec3, Ec4, Ec5, Ec6, Ec7, Ec8⟩ := zAh E;have Elt := (ltH E);have d : Hid _ := B;clear B E;go_wp2;go_ret
      exact ⟨rfl, d.out⟩
     ·skip
      obtain ⟨Ec0, Ec1, Ec2, Ec3, Ec4, Ec5, Ec6, Ec7, Ec8⟩ := zAh E;have Elt := (ltH E);have d : Hid _ := B;clear B E;go_wp2;go_ret
      exact ⟨by simp [Hha.out, Hhb.out, Hhd.out], d.out⟩
    ·have oA : ((x.2.2.2.2.1.length : Int) == 0) = false := by simp [V]
     have Hhd : Hid (¬ x.2.2.2.2.1 = []) := fun q => V (List.length_eq_zero_iff.2 q);clear V;have B := Below.refl w.heap.size w;go_enter Tryz.func97, Tryz.ntmps97;go_upto_region 1 with fail
     generalize v : w.alloc _ = L;have E := boxH v;have f := boxB v;have b := boxL v;clear v;replace B := zAa B f;clear f;have j := Nat.le_of_eq b;have i := Nat.le_of_eq b.symm;clear b;obtain ⟨Ec0, Ec1, Ec2, Ec3, Ec4, Ec5, Ec6, Ec7, Ec8⟩ := zAh E;have Elt := (ltH E);go_wp2_with fail
     clear Ec0 Ec1 Ec2 Ec3 Ec4 Ec5 Ec6 Ec7 Ec8 Elt;refine (A.out _ B).mono ?_;rintro e K ⟨rfl, a⟩;have gA : L.heap.size ≤ K.heap.size := a.size;replace B := zAa B a;replace E := zAb a E;clear a;obtain ⟨Ec0, Ec1, Ec2, Ec3, Ec4, Ec5, Ec6, Ec7, Ec8⟩ := zAh E;have Elt := (ltH E);go_wp2_with fail
     clear Ec0 Ec1 Ec2 Ec3 Ec4 Ec5 Ec6 Ec7 Ec8 Elt;refine (X.out _ B).mono ?_;rintro e T ⟨rfl, a⟩;have AA : K.heap.size ≤ T.heap.size := a.size;replace B := zAa B a;replace E := zAb a E;clear a;cases q2
     ·skip
      obtain ⟨Ec0, Ec1, Ec2, Ec3, Ec4, Ec5, Ec6, Ec7, Ec8⟩ := zAh E;have Elt := (ltH E);have d : Hid _ := B;clear B E;go_wp2;go_ret
      exact ⟨rfl, d.out⟩
     ·skip
      obtain ⟨Ec0, Ec1, Ec2, Ec3, Ec4, Ec5, Ec6, Ec7, Ec8⟩ := zAh E;have Elt := (ltH E);have d : Hid _ := B;clear B E;go_wp2;go_ret
      exact ⟨by simp [Hha.out, Hhb.out, Hhd.out], d.out⟩
   ·have yA : (x.2.2.2.1 == 0) = false := by simp [G]
    have Hhb : Hid (¬ x.2.2.2.1 = 0) := G;clear G;have B := Below.refl w.heap.size w;go_enter Tryz.func97, Tryz.ntmps97;go_upto_region 1 with fail
    generalize n : w.alloc _ = U;have E := boxH n;have f := boxB n;have b := boxL n;clear n;replace B := zAa B f;clear f;have j := Nat.le_of_eq b;have i := Nat.le_of_eq b.symm;clear b;obtain ⟨Ec0, Ec1, Ec2, Ec3, Ec4, Ec5, Ec6, Ec7, Ec8⟩ := zAh E;have Elt := (ltH E);go_wp2_with fail
    clear Ec0 Ec1 Ec2 Ec3 Ec4 Ec5 Ec6 Ec7 Ec8 Elt;refine (A.out _ B).mono ?_;rintro e N ⟨rfl, a⟩;have zA : U.heap.size ≤ N.heap.size := a.size;replace B := zAa B a;replace E := zAb a E;clear a;obtain ⟨Ec0, Ec1, Ec2, Ec3, Ec4, Ec5, Ec6, Ec7, Ec8⟩ := zAh E;have Elt := (ltH E);go_wp2_with fail
    clear Ec0 Ec1 Ec2 Ec3 Ec4 Ec5 Ec6 Ec7 Ec8 Elt;refine (X.out _ B).mono ?_;rintro e R ⟨rfl, a⟩;have bA : N.heap.size ≤ R.heap.size := a.size;replace B := zAa B a;replace E := zAb a E;clear a;cases q2
    ·skip
     obtain ⟨Ec0, Ec1, Ec2, Ec3, Ec4, Ec5, Ec6, Ec7, Ec8⟩ := zAh E;have Elt := (ltH E);have d : Hid _ := B;clear B E;go_wp2;go_ret
     exact ⟨rfl, d.out⟩
    ·skip
     obtain ⟨Ec0, Ec1, Ec2, Ec3, Ec4, Ec5, Ec6, Ec7, Ec8⟩ := zAh E;have Elt := (ltH E);have d : Hid _ := B;clear B E;go_wp2;go_ret
     exact ⟨by simp [Hha.out, Hhb.out], d.out⟩
  ·have S : (x.2.2.1 == 0) = false := by simp [F]
   have Hha : Hid (¬ x.2.2.1 = 0) := F;clear F;have B := Below.refl w.heap.size w;go_enter Tryz.func97, Tryz.ntmps97;go_upto_region 1 with fail
   generalize c : w.alloc _ = u10w;have E := boxH c;have f := boxB c;have b := boxL c;clear c;replace B := zAa B f;clear f;have j := Nat.le_of_eq b;have i := Nat.le_of_eq b.symm;clear b;obtain ⟨Ec0, Ec1, Ec2, Ec3, Ec4, Ec5, Ec6, Ec7, Ec8⟩ := zAh E;have Elt := (ltH E);go_wp2_with fail
   clear Ec0 Ec1 Ec2 Ec3 Ec4 Ec5 Ec6 Ec7 Ec8 Elt;refine (A.out _ B).mono ?_;rintro e o ⟨rfl, a⟩;have O : u10w.heap.size ≤ o.heap.size := a.size;replace B := zAa B a;replace E := zAb a E;clear a;obtain ⟨Ec0, Ec1, Ec2, Ec3, Ec4, Ec5, Ec6, Ec7, Ec8⟩ := zAh E;have Elt := (ltH E);go_wp2_with fail
   clear Ec0 Ec1 Ec2 Ec3 Ec4 Ec5 Ec6 Ec7 Ec8 Elt;refine (X.out _ B).mono ?_;rintro e H ⟨rfl, a⟩;have nA : o.heap.size ≤ H.heap.size := a.size;replace B := zAa B a;replace E := zAb a E;clear a;cases q2
   ·skip
    obtain ⟨Ec0, Ec1, Ec2, Ec3, Ec4, Ec5, Ec6, Ec7, Ec8⟩ := zAh E;have Elt := (ltH E);have d : Hid _ := B;clear B E;go_wp2;go_ret
    exact ⟨rfl, d.out⟩
   ·skip
    obtain ⟨Ec0, Ec1, Ec2, Ec3, Ec4, Ec5, Ec6, Ec7, Ec8⟩ := zAh E;have Elt := (ltH E);have d : Hid _ := B;clear B E;go_wp2;go_ret
    exact ⟨by simp [Hha.out], d.out⟩
def zGU (l : Int) (x : zBi) : Bool := x.1.1.all fun row => row.all fun u => decide (u.1 < l)
def zBS (l : Int) (x : zBi) : Bool := zGU l x && decide (x.2.2.2.2.1.1 < l)
theorem rows_no {l : Int} {x : zBi} {j i : Nat} {row : List zC3} {u : zC3} (h1 : x.1.1[j]? = some row) (h2 : row[i]? = some u) (h : ¬ u.1 < l) : zBS l x = false := by
 have a : row.all (fun u => decide (u.1 < l)) = false := zBZ h2 (decide_eq_false h);have b : zGU l x = false := zBZ h1 a;unfold zBS;rw [b, Bool.false_and]
theorem rows_yes {l : Int} {x : zBi} (h : ∀ (j : Nat) row, x.1.1[j]? = some row → ∀ (i : Nat) u, row[i]? = some u → u.1 < l) : zGU l x = true := by
 refine List.all_eq_true.2 fun row hr => List.all_eq_true.2 fun u hu => ?_;obtain ⟨j, b⟩ := List.getElem?_of_mem hr;obtain ⟨i, a⟩ := List.getElem?_of_mem hu;exact decide_eq_true (h j row b i u a)
theorem zMT (l : Int) (K : List Value) (x : zBi) (w : World) (h : zAB.rd w K x) :
    Calls Tryz.prog 96 #[zBq K, .int .i64 l] w fun e w' => e = .returned (.bool (zBS l x)) ∧ Below w.heap.size w w' := by
 obtain ⟨v0, v1, v2, v5, v6, v7, v8, rfl, Y, r1, i2, i3, r4, r5⟩ := zC7 h;obtain ⟨I, c0, b0, d0, e0, z, A, -, -, k0, -⟩ := zBO Y;simp only [List.cons.injEq, and_true] at e0;obtain ⟨rfl, rfl⟩ := e0;obtain ⟨a1, c1, e1, -⟩ := r1;simp only [List.cons.injEq, and_true] at e1;obtain rfl := e1;obtain ⟨a4, c4, e4, -⟩ := zBz r4;simp only [List.cons.injEq, and_true] at e4;obtain ⟨rfl, rfl, rfl⟩ := e4;obtain ⟨a5, Z, e5, -, -, -⟩ := r5;simp only [List.cons.injEq, and_true] at e5;obtain rfl := e5;change Calls Tryz.prog 96 #[.agg #[.slice I x.1.1.length c0, .slice b0 x.1.2.length d0, .slice a1 x.2.1.length c1, .int .i64 x.2.2.1, .int .i64 x.2.2.2.1, .int .i64 x.2.2.2.2.1.1, .int .i64 x.2.2.2.2.1.2.1, .slice a4 x.2.2.2.2.1.2.2.length c4, .slice a5 x.2.2.2.2.2.length Z], .int .i64 l] w _
 have IA : x.1.1.length ≤ 9223372036854775807 := Nat.le_trans z A;have HS : Hid (∀ W, Below w.heap.size w W → zA4 zBh W I x.1.1) := fun W hb => zAm k0 hb;have HN : Hid (∀ (j i : Nat) a u, x.1.1[j]? = some a → a[i]? = some u → ¬ u.1 < l → zBS l x = false) := fun j i a u h1 h2 h3 => rows_no h1 h2 h3;have HY : Hid ((∀ (j : Nat) a, x.1.1[j]? = some a → ∀ (i : Nat) u, a[i]? = some u → u.1 < l) → zGU l x = true) := fun q => rows_yes q;clear h Y r4 i2 i3 z A k0;go_enter Tryz.func96, Tryz.ntmps96;go_wp2;generalize o : w.alloc _ = W0;have X := boxH o;have B := boxB o;clear o;go_loopw [5] (fun s wr => ∃ j : Nat, j ≤ x.1.1.length ∧ s = .int .i64 j ∧ (∀ (q : Nat) a, q < j → x.1.1[q]? = some a → ∀ (i : Nat) u, a[i]? = some u → u.1 < l) ∧ Below w.heap.size w wr ∧ wr.heap[w.heap.size]? = some (.cells #[.slice I x.1.1.length c0, .slice b0 x.1.2.length d0, .slice a1 x.2.1.length c1, .int .i64 x.2.2.1, .int .i64 x.2.2.2.1, .int .i64 x.2.2.2.2.1.1, .int .i64 x.2.2.2.2.1.2.1, .slice a4 x.2.2.2.2.1.2.2.length c4, .slice a5 x.2.2.2.2.2.length Z] 95 (0, 0))) (fun s _ => x.1.1.length - (intOf s).toNat)
 case atStart => exact ⟨0, Nat.zero_le _, rfl, fun q a hq => by omega, B, X⟩
 case round =>
  clear X B;obtain ⟨j, hj, rfl, D, E, XX⟩ := hrel;obtain ⟨p0, p1, p2, p3, p4, p5, p6, p7, p8⟩ := zAh XX;by_cases S : j < x.1.1.length
  ·have iA : (j : Int) < (x.1.1.length : Int) := by omega
   obtain ⟨a, L⟩ : ∃ a, x.1.1[j]? = some a := ⟨_, List.getElem?_eq_getElem S⟩;obtain ⟨bb, p, K, H, C, b⟩ := zAy (HS.out _ E) L;subst H;obtain ⟨H, rc, rfl, n1, n2, m⟩ := C;have y := b 0 _ rfl;rw [show p + (j * zBh.size + 0) = p + j from by rw [show zBh.size = 1 from rfl]; omega] at y;have LA : a.length ≤ 9223372036854775807 := Nat.le_trans n1 n2;have M : Hid (∀ W, Below wr.heap.size wr W → zA4 zBu W H a) := fun W hb => zAm m hb;have HX : Hid (x.1.1[j]? = some a) := L;have R : Hid (∀ W, Below wr.heap.size wr W → W.cell? ⟨bb, p + j, none⟩ = some (.slice H a.length rc)) := fun W hb => zAe hb y (zAk y);clear L b m n1 n2 y;go_wp2;go_loopw [6] (fun i wi => ∃ k : Nat, k ≤ a.length ∧ i = .int .i64 k ∧ (∀ (q : Nat) u, q < k → a[q]? = some u → u.1 < l) ∧ Below wr.heap.size wr wi) (fun i _ => a.length - (intOf i).toNat)
   case atStart => exact ⟨0, Nat.zero_le _, rfl, fun q u hq => by omega, Below.refl _ _⟩
   case round =>
    obtain ⟨k, hk, rfl, n, v⟩ := hrel;rename_i wi
    have XI := zAb v XX;obtain ⟨s0, s1, s2, s3, s4, s5, s6, s7, s8⟩ := zAh XI;have y := R.out _ v;by_cases F : k < a.length
    ·have V : (k : Int) < (a.length : Int) := by omega
     obtain ⟨u, r⟩ : ∃ u, a[k]? = some u := ⟨_, List.getElem?_eq_getElem F⟩;obtain ⟨bu, g, cu, ru, f, G⟩ := zAy (M.out _ v) r;subst ru;obtain ⟨ua, uc, rfl, -⟩ := zBz f;have t0 := G 0 _ rfl;rw [show g + (k * zBu.size + 0) = g + k * 3 from rfl] at t0;have HU : Hid (a[k]? = some u) := r;clear r G f;by_cases c : u.1 < l
     ·have d : ¬ (l ≤ u.1) := by omega
      have U : Hid (u.1 < l) := c;clear c;go_wp2;go_roundw
      case rel =>
       refine ⟨k + 1, by omega, by go_num, fun q u' hq hu' => ?_, v⟩;by_cases T : q < k
       ·exact n q u' T hu'
       ·have : q = k := by omega
        subst this;rw [HU.out] at hu';cases hu'
        exact U.out
      case measure => simp [intOf]; omega
     ·have d : l ≤ u.1 := by omega
      have HF : Hid (zBS l x = false) := HN.out j k a u HX.out HU.out (by first | exact c | exact d);clear c;have O := zAa E v;go_wp2;go_ret
      exact ⟨zAl HF.out.symm, O⟩
    ·have O := zAa E v;have N : Hid (∀ (q : Nat) row', q < j + 1 → x.1.1[q]? = some row' → ∀ (i : Nat) u, row'[i]? = some u → u.1 < l) := fun q row' hq hr i u r => by
      by_cases T : q < j
      ·exact D q row' T hr i u r
      ·have : q = j := by omega
       subst this;rw [HX.out] at hr;cases hr;exact n i u (by have := (List.getElem?_eq_some_iff.1 r).1; omega) r
     go_wp2;go_roundw
     case rel => exact ⟨j + 1, by omega, by go_num, N.out, O, XI⟩
     case measure => simp [intOf]; omega
  ·have HR : Hid (zGU l x = true) := HY.out fun q a hr => D q a (by have := (List.getElem?_eq_some_iff.1 hr).1; omega) hr;by_cases hz : x.2.2.2.2.1.1 < l
   ·have J : Hid (x.2.2.2.2.1.1 < l) := hz;go_wp2;go_ret
    exact ⟨by unfold zBS; rw [HR.out]; simp [J.out], E⟩
   ·have J : Hid (¬ x.2.2.2.2.1.1 < l) := hz;go_wp2;go_ret
    exact ⟨by unfold zBS; rw [HR.out]; simp [J.out], E⟩
end Go.Proofs.YtcocbafhcpdheaaGreatDoor
