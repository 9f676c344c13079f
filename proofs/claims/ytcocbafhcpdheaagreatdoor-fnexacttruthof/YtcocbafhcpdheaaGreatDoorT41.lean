import Derived.Test.YtcocbafhcpdheaaGreatDoorT00Box
import Derived.Test.YtcocbafhcpdheaaGreatDoorT31
namespace Go.Proofs.YtcocbafhcpdheaaGreatDoor
set_option maxHeartbeats 4000000
set_option maxRecDepth 20000
open Go.ChangeShapes Go.WideShapes Go.ChangeAt Go.RowKit
set_option linter.unusedVariables false
set_option linter.unusedSimpArgs false
def evC (x : zBr) : Bool := zB2 x.2.1 && (decide (x.2.2.1 = 0) && (decide (x.2.2.2.1 = 0) && decide (x.2.2.2.2.1.length = 0)))
def evP (x : zBr) : Bool := decide (x.1 = 5) && (decide (x.2.1 = (0, 0, 0, 0)) && (decide (x.2.2.2.2.2 = 0) && (zA8 x.2.2.1 0 15 && (zA8 x.2.2.2.1 0 3 && isL x.2.2.2.2.1))))
def evB (x : zBr) : Bool := if zA8 x.1 0 3 then evC x else evP x
theorem zJL (x : zBr) (ea : Option Addr) (ec : Nat) (w : World) (h : zA4 zAG w ea x.2.2.2.2.1) (hl : x.2.2.2.2.1.length ≤ maxLen) :
    Calls Tryz.prog 97 #[.agg #[.int .i64 x.1, .int .i64 x.2.1.1, .int .i64 x.2.1.2.1, .int .i64 x.2.1.2.2.1, .int .i64 x.2.1.2.2.2, .int .i64 x.2.2.1, .int .i64 x.2.2.2.1, .slice ea x.2.2.2.2.1.length ec, .int .i64 x.2.2.2.2.2]] w fun e w' => e = .returned (.bool (evB x)) ∧ Below w.heap.size w w' := by
 have H1 : Hid (∀ W, Below w.heap.size w W → Calls Tryz.prog 98 #[.int .i64 x.1, .int .i64 0, .int .i64 3] W fun e w' => e = .returned (.bool (zA8 x.1 0 3)) ∧ Below W.heap.size W w') := fun W hb => (zAo x.1 0 3 W).mono fun e w' ⟨q, r⟩ => ⟨q, zEO r⟩;have H2 : Hid (∀ W, Below w.heap.size w W → Calls Tryz.prog 147 #[.agg #[.int .i64 x.2.1.1, .int .i64 x.2.1.2.1, .int .i64 x.2.1.2.2.1, .int .i64 x.2.1.2.2.2]] W fun e w' => e = .returned (.bool (zB2 x.2.1)) ∧ Below W.heap.size W w') := fun W hb => zBH x.2.1.1 x.2.1.2.1 x.2.1.2.2.1 x.2.1.2.2.2 W;have H3 : Hid (∀ W, Below w.heap.size w W → Calls Tryz.prog 98 #[.int .i64 x.2.2.1, .int .i64 0, .int .i64 15] W fun e w' => e = .returned (.bool (zA8 x.2.2.1 0 15)) ∧ Below W.heap.size W w') := fun W hb => (zAo x.2.2.1 0 15 W).mono fun e w' ⟨q, r⟩ => ⟨q, zEO r⟩;have H4 : Hid (∀ W, Below w.heap.size w W → Calls Tryz.prog 98 #[.int .i64 x.2.2.2.1, .int .i64 0, .int .i64 3] W fun e w' => e = .returned (.bool (zA8 x.2.2.2.1 0 3)) ∧ Below W.heap.size W w') := fun W hb => (zAo x.2.2.2.1 0 3 W).mono fun e w' ⟨q, r⟩ => ⟨q, zEO r⟩;have H5 : Hid (∀ W, Below w.heap.size w W → Calls Tryz.prog 144 #[.slice ea x.2.2.2.2.1.length ec] W fun e w' => e = .returned (.bool (isL x.2.2.2.2.1)) ∧ Below W.heap.size W w') := fun W hb => (zB4 ea x.2.2.2.2.1 ec W (zBv (zAm h hb))).mono fun e w' ⟨q, r⟩ => ⟨q, zEO r⟩;have hl2 : x.2.2.2.2.1.length ≤ 9223372036854775807 := hl;clear h hl;unfold evB;cases hq1 : zA8 x.1 0 3
 ·rw [hq1] at H1;rw [if_neg Bool.false_ne_true];unfold evP;clear hq1 H2;generalize zA8 x.2.2.1 0 15 = q3 at H3 ⊢;generalize zA8 x.2.2.2.1 0 3 = q4 at H4 ⊢;generalize isL x.2.2.2.2.1 = q5 at H5 ⊢;by_cases ha : x.1 = 5
  ·have zha : (x.1 == 5) = true := by simp [ha]
   have Hha : Hid (x.1 = 5) := ha;clear ha;by_cases hk0 : x.2.1.1 = 0
   ·have zhk0 : (x.2.1.1 == 0) = true := by simp [hk0]
    have Hhk0 : Hid (x.2.1.1 = 0) := hk0;clear hk0;by_cases hk1 : x.2.1.2.1 = 0
    ·have zhk1 : (x.2.1.2.1 == 0) = true := by simp [hk1]
     have Hhk1 : Hid (x.2.1.2.1 = 0) := hk1;clear hk1;by_cases hk2 : x.2.1.2.2.1 = 0
     ·have zhk2 : (x.2.1.2.2.1 == 0) = true := by simp [hk2]
      have Hhk2 : Hid (x.2.1.2.2.1 = 0) := hk2;clear hk2;by_cases hk3 : x.2.1.2.2.2 = 0
      ·have zhk3 : (x.2.1.2.2.2 == 0) = true := by simp [hk3]
       have Hhk3 : Hid (x.2.1.2.2.2 = 0) := hk3;clear hk3;by_cases ht : x.2.2.2.2.2 = 0
       ·have zht : (x.2.2.2.2.2 == 0) = true := by simp [ht]
        have Hht : Hid (x.2.2.2.2.2 = 0) := ht;clear ht;have B := Below.refl w.heap.size w;go_enter Tryz.func97, Tryz.ntmps97;go_upto_region 1 with fail
        generalize hu1w : w.alloc _ = u1w;have E := boxH hu1w;have bz := boxB hu1w;have zE := boxL hu1w;clear hu1w;replace B := zAa B bz;clear bz;have zEa := Nat.le_of_eq zE;have zEb := Nat.le_of_eq zE.symm;clear zE;obtain ⟨Ec0, Ec1, Ec2, Ec3, Ec4, Ec5, Ec6, Ec7, Ec8⟩ := zAh E;have Elt := (ltH E);go_wp2_with fail
        clear Ec0 Ec1 Ec2 Ec3 Ec4 Ec5 Ec6 Ec7 Ec8 Elt;refine (H1.out _ B).mono ?_;rintro e u2w ⟨rfl, bq⟩;have tu2w : u1w.heap.size ≤ u2w.heap.size := bq.size;replace B := zAa B bq;replace E := zAb bq E;clear bq;obtain ⟨Ec0, Ec1, Ec2, Ec3, Ec4, Ec5, Ec6, Ec7, Ec8⟩ := zAh E;have Elt := (ltH E);go_wp2_with fail
        clear Ec0 Ec1 Ec2 Ec3 Ec4 Ec5 Ec6 Ec7 Ec8 Elt;refine (H3.out _ B).mono ?_;rintro e u3w ⟨rfl, bq⟩;have tu3w : u2w.heap.size ≤ u3w.heap.size := bq.size;replace B := zAa B bq;replace E := zAb bq E;clear bq;cases q3
        ·skip
         obtain ⟨Ec0, Ec1, Ec2, Ec3, Ec4, Ec5, Ec6, Ec7, Ec8⟩ := zAh E;have Elt := (ltH E);have HB : Hid _ := B;clear B E;go_wp2;go_ret
         exact ⟨by simp [Hha.out, Hhk0.out, Hhk1.out, Hhk2.out, Hhk3.out, Hht.out, Prod.ext_iff], HB.out⟩
        ·skip
         obtain ⟨Ec0, Ec1, Ec2, Ec3, Ec4, Ec5, Ec6, Ec7, Ec8⟩ := zAh E;have Elt := (ltH E);go_wp2_with fail
         clear Ec0 Ec1 Ec2 Ec3 Ec4 Ec5 Ec6 Ec7 Ec8 Elt;refine (H4.out _ B).mono ?_;rintro e u4w ⟨rfl, bq⟩;have tu4w : u3w.heap.size ≤ u4w.heap.size := bq.size;replace B := zAa B bq;replace E := zAb bq E;clear bq;cases q4
         ·skip
          obtain ⟨Ec0, Ec1, Ec2, Ec3, Ec4, Ec5, Ec6, Ec7, Ec8⟩ := zAh E;have Elt := (ltH E);have HB : Hid _ := B;clear B E;go_wp2;go_ret
          exact ⟨by simp [Hha.out, Hhk0.out, Hhk1.out, Hhk2.out, Hhk3.out, Hht.out, Prod.ext_iff], HB.out⟩
         ·skip
          obtain ⟨Ec0, Ec1, Ec2, Ec3, Ec4, Ec5, Ec6, Ec7, Ec8⟩ := zAh E;have Elt := (ltH E);go_wp2_with fail
          clear Ec0 Ec1 Ec2 Ec3 Ec4 Ec5 Ec6 Ec7 Ec8 Elt;refine (H5.out _ B).mono ?_;rintro e u5w ⟨rfl, bq⟩;have tu5w : u4w.heap.size ≤ u5w.heap.size := bq.size;replace B := zAa B bq;replace E := zAb bq E;clear bq;obtain ⟨Ec0, Ec1, Ec2, Ec3, Ec4, Ec5, Ec6, Ec7, Ec8⟩ := zAh E;have Elt := (ltH E);have HB : Hid _ := B;clear B E;go_wp2;go_ret
          exact ⟨by simp [Hha.out, Hhk0.out, Hhk1.out, Hhk2.out, Hhk3.out, Hht.out, Prod.ext_iff], HB.out⟩
       ·have zht : (x.2.2.2.2.2 == 0) = false := by simp [ht]
        have Hht : Hid (¬ x.2.2.2.2.2 = 0) := ht;clear ht;have B := Below.refl w.heap.size w;go_enter Tryz.func97, Tryz.ntmps97;go_upto_region 1 with fail
        generalize hu6w : w.alloc _ = u6w;have E := boxH hu6w;have bz := boxB hu6w;have zE := boxL hu6w;clear hu6w;replace B := zAa B bz;clear bz;have zEa := Nat.le_of_eq zE;have zEb := Nat.le_of_eq zE.symm;clear zE;obtain ⟨Ec0, Ec1, Ec2, Ec3, Ec4, Ec5, Ec6, Ec7, Ec8⟩ := zAh E;have Elt := (ltH E);go_wp2_with fail
        clear Ec0 Ec1 Ec2 Ec3 Ec4 Ec5 Ec6 Ec7 Ec8 Elt;refine (H1.out _ B).mono ?_;rintro e u7w ⟨rfl, bq⟩;have tu7w : u6w.heap.size ≤ u7w.heap.size := bq.size;replace B := zAa B bq;replace E := zAb bq E;clear bq;obtain ⟨Ec0, Ec1, Ec2, Ec3, Ec4, Ec5, Ec6, Ec7, Ec8⟩ := zAh E;have Elt := (ltH E);have HB : Hid _ := B;clear B E;go_wp2;go_ret
        exact ⟨by simp [Hha.out, Hhk0.out, Hhk1.out, Hhk2.out, Hhk3.out, Hht.out, Prod.ext_iff], HB.out⟩
      ·have zhk3 : (x.2.1.2.2.2 == 0) = false := by simp [hk3]
       have Hhk3 : Hid (¬ x.2.1.2.2.2 = 0) := hk3;clear hk3;have B := Below.refl w.heap.size w;go_enter Tryz.func97, Tryz.ntmps97;go_upto_region 1 with fail
       generalize hu8w : w.alloc _ = u8w;have E := boxH hu8w;have bz := boxB hu8w;have zE := boxL hu8w;clear hu8w;replace B := zAa B bz;clear bz;have zEa := Nat.le_of_eq zE;have zEb := Nat.le_of_eq zE.symm;clear zE;obtain ⟨Ec0, Ec1, Ec2, Ec3, Ec4, Ec5, Ec6, Ec7, Ec8⟩ := zAh E;have Elt := (ltH E);go_wp2_with fail
       clear Ec0 Ec1 Ec2 Ec3 Ec4 Ec5 Ec6 Ec7 Ec8 Elt;refine (H1.out _ B).mono ?_;rintro e u9w ⟨rfl, bq⟩;have tu9w : u8w.heap.size ≤ u9w.heap.size := bq.size;replace B := zAa B bq;replace E := zAb bq E;clear bq;obtain ⟨Ec0, Ec1, Ec2, Ec3, Ec4, Ec5, Ec6, Ec7, Ec8⟩ := zAh E;have Elt := (ltH E);have HB : Hid _ := B;clear B E;go_wp2;go_ret
       exact ⟨by simp [Hha.out, Hhk0.out, Hhk1.out, Hhk2.out, Hhk3.out, Prod.ext_iff], HB.out⟩
     ·have zhk2 : (x.2.1.2.2.1 == 0) = false := by simp [hk2]
      have Hhk2 : Hid (¬ x.2.1.2.2.1 = 0) := hk2;clear hk2;have B := Below.refl w.heap.size w;go_enter Tryz.func97, Tryz.ntmps97;go_upto_region 1 with fail
      generalize hu10w : w.alloc _ = u10w;have E := boxH hu10w;have bz := boxB hu10w;have zE := boxL hu10w;clear hu10w;replace B := zAa B bz;clear bz;have zEa := Nat.le_of_eq zE;have zEb := Nat.le_of_eq zE.symm;clear zE;obtain ⟨Ec0, Ec1, Ec2, Ec3, Ec4, Ec5, Ec6, Ec7, Ec8⟩ := zAh E;have Elt := (ltH E);go_wp2_with fail
      clear Ec0 Ec1 Ec2 Ec3 Ec4 Ec5 Ec6 Ec7 Ec8 Elt;refine (H1.out _ B).mono ?_;rintro e u11w ⟨rfl, bq⟩;have tu11w : u10w.heap.size ≤ u11w.heap.size := bq.size;replace B := zAa B bq;replace E := zAb bq E;clear bq;obtain ⟨Ec0, Ec1, Ec2, Ec3, Ec4, Ec5, Ec6, Ec7, Ec8⟩ := zAh E;have Elt := (ltH E);have HB : Hid _ := B;clear B E;go_wp2;go_ret
      exact ⟨by simp [Hha.out, Hhk0.out, Hhk1.out, Hhk2.out, Prod.ext_iff], HB.out⟩
    ·have zhk1 : (x.2.1.2.1 == 0) = false := by simp [hk1]
     have Hhk1 : Hid (¬ x.2.1.2.1 = 0) := hk1;clear hk1;have B := Below.refl w.heap.size w;go_enter Tryz.func97, Tryz.ntmps97;go_upto_region 1 with fail
     generalize hu12w : w.alloc _ = u12w;have E := boxH hu12w;have bz := boxB hu12w;have zE := boxL hu12w;clear hu12w;replace B := zAa B bz;clear bz;have zEa := Nat.le_of_eq zE;have zEb := Nat.le_of_eq zE.symm;clear zE;obtain ⟨Ec0, Ec1, Ec2, Ec3, Ec4, Ec5, Ec6, Ec7, Ec8⟩ := zAh E;have Elt := (ltH E);go_wp2_with fail
     clear Ec0 Ec1 Ec2 Ec3 Ec4 Ec5 Ec6 Ec7 Ec8 Elt;refine (H1.out _ B).mono ?_;rintro e u13w ⟨rfl, bq⟩;have tu13w : u12w.heap.size ≤ u13w.heap.size := bq.size;replace B := zAa B bq;replace E := zAb bq E;clear bq;obtain ⟨Ec0, Ec1, Ec2, Ec3, Ec4, Ec5, Ec6, Ec7, Ec8⟩ := zAh E;have Elt := (ltH E);have HB : Hid _ := B;clear B E;go_wp2;go_ret
     exact ⟨by simp [Hha.out, Hhk0.out, Hhk1.out, Prod.ext_iff], HB.out⟩
   ·have zhk0 : (x.2.1.1 == 0) = false := by simp [hk0]
    have Hhk0 : Hid (¬ x.2.1.1 = 0) := hk0;clear hk0;have B := Below.refl w.heap.size w;go_enter Tryz.func97, Tryz.ntmps97;go_upto_region 1 with fail
    generalize hu14w : w.alloc _ = u14w;have E := boxH hu14w;have bz := boxB hu14w;have zE := boxL hu14w;clear hu14w;replace B := zAa B bz;clear bz;have zEa := Nat.le_of_eq zE;have zEb := Nat.le_of_eq zE.symm;clear zE;obtain ⟨Ec0, Ec1, Ec2, Ec3, Ec4, Ec5, Ec6, Ec7, Ec8⟩ := zAh E;have Elt := (ltH E);go_wp2_with fail
    clear Ec0 Ec1 Ec2 Ec3 Ec4 Ec5 Ec6 Ec7 Ec8 Elt;refine (H1.out _ B).mono ?_;rintro e u15w ⟨rfl, bq⟩;have tu15w : u14w.heap.size ≤ u15w.heap.size := bq.size;replace B := zAa B bq;replace E := zAb bq E;clear bq;obtain ⟨Ec0, Ec1, Ec2, Ec3, Ec4, Ec5, Ec6, Ec7, Ec8⟩ := zAh E;have Elt := (ltH E);have HB : Hid _ := B;clear B E;go_wp2;go_ret
    exact ⟨by simp [Hha.out, Hhk0.out, Prod.ext_iff], HB.out⟩
  ·have zha : (x.1 == 5) = false := by simp [ha]
   have Hha : Hid (¬ x.1 = 5) := ha;clear ha;have B := Below.refl w.heap.size w;go_enter Tryz.func97, Tryz.ntmps97;go_upto_region 1 with fail
   generalize hu16w : w.alloc _ = u16w;have E := boxH hu16w;have bz := boxB hu16w;have zE := boxL hu16w;clear hu16w;replace B := zAa B bz;clear bz;have zEa := Nat.le_of_eq zE;have zEb := Nat.le_of_eq zE.symm;clear zE;obtain ⟨Ec0, Ec1, Ec2, Ec3, Ec4, Ec5, Ec6, Ec7, Ec8⟩ := zAh E;have Elt := (ltH E);go_wp2_with fail
   clear Ec0 Ec1 Ec2 Ec3 Ec4 Ec5 Ec6 Ec7 Ec8 Elt;refine (H1.out _ B).mono ?_;rintro e u17w ⟨rfl, bq⟩;have tu17w : u16w.heap.size ≤ u17w.heap.size := bq.size;replace B := zAa B bq;replace E := zAb bq E;clear bq;obtain ⟨Ec0, Ec1, Ec2, Ec3, Ec4, Ec5, Ec6, Ec7, Ec8⟩ := zAh E;have Elt := (ltH E);have HB : Hid _ := B;clear B E;go_wp2;go_ret
   exact ⟨by simp [Hha.out, Prod.ext_iff], HB.out⟩
 ·rw [hq1] at H1;rw [if_pos rfl];unfold evC;clear hq1 H3 H4 H5;generalize zB2 x.2.1 = q2 at H2 ⊢;by_cases ha : x.2.2.1 = 0
  ·have zha : (x.2.2.1 == 0) = true := by simp [ha]
   have Hha : Hid (x.2.2.1 = 0) := ha;clear ha;by_cases hb : x.2.2.2.1 = 0
   ·have zhb : (x.2.2.2.1 == 0) = true := by simp [hb]
    have Hhb : Hid (x.2.2.2.1 = 0) := hb;clear hb;by_cases hd : x.2.2.2.2.1.length = 0
    ·have zhd : ((x.2.2.2.2.1.length : Int) == 0) = true := by simp [hd]
     have Hhd : Hid (x.2.2.2.2.1 = []) := List.length_eq_zero_iff.1 hd;clear hd;have B := Below.refl w.heap.size w;go_enter Tryz.func97, Tryz.ntmps97;go_upto_region 1 with fail
     generalize hu1w : w.alloc _ = u1w;have E := boxH hu1w;have bz := boxB hu1w;have zE := boxL hu1w;clear hu1w;replace B := zAa B bz;clear bz;have zEa := Nat.le_of_eq zE;have zEb := Nat.le_of_eq zE.symm;clear zE;obtain ⟨Ec0, Ec1, Ec2, Ec3, Ec4, Ec5, Ec6, Ec7, Ec8⟩ := zAh E;have Elt := (ltH E);go_wp2_with fail
     clear Ec0 Ec1 Ec2 Ec3 Ec4 Ec5 Ec6 Ec7 Ec8 Elt;refine (H1.out _ B).mono ?_;rintro e u2w ⟨rfl, bq⟩;have tu2w : u1w.heap.size ≤ u2w.heap.size := bq.size;replace B := zAa B bq;replace E := zAb bq E;clear bq;obtain ⟨Ec0, Ec1, Ec2, Ec3, Ec4, Ec5, Ec6, Ec7, Ec8⟩ := zAh E;have Elt := (ltH E);go_wp2_with fail
     clear Ec0 Ec1 Ec2 Ec3 Ec4 Ec5 Ec6 Ec7 Ec8 Elt;refine (H2.out _ B).mono ?_;rintro e u3w ⟨rfl, bq⟩;have tu3w : u2w.heap.size ≤ u3w.heap.size := bq.size;replace B := zAa B bq;replace E := zAb bq E;clear bq;cases q2
     ·skip
      obtain ⟨Ec0, Ec1, Ec2, Ec3, Ec4, Ec5, Ec6, Ec7, Ec8⟩ := zAh E;have Elt := (ltH E);have HB : Hid _ := B;clear B E;go_wp2;go_ret
      exact ⟨rfl, HB.out⟩
     ·skip
      obtain ⟨Ec0, Ec1, Ec2, Ec3, Ec4, Ec5, Ec6, Ec7, Ec8⟩ := zAh E;have Elt := (ltH E);have HB : Hid _ := B;clear B E;go_wp2;go_ret
      exact ⟨by simp [Hha.out, Hhb.out, Hhd.out], HB.out⟩
    ·have zhd : ((x.2.2.2.2.1.length : Int) == 0) = false := by simp [hd]
     have Hhd : Hid (¬ x.2.2.2.2.1 = []) := fun q => hd (List.length_eq_zero_iff.2 q);clear hd;have B := Below.refl w.heap.size w;go_enter Tryz.func97, Tryz.ntmps97;go_upto_region 1 with fail
     generalize hu4w : w.alloc _ = u4w;have E := boxH hu4w;have bz := boxB hu4w;have zE := boxL hu4w;clear hu4w;replace B := zAa B bz;clear bz;have zEa := Nat.le_of_eq zE;have zEb := Nat.le_of_eq zE.symm;clear zE;obtain ⟨Ec0, Ec1, Ec2, Ec3, Ec4, Ec5, Ec6, Ec7, Ec8⟩ := zAh E;have Elt := (ltH E);go_wp2_with fail
     clear Ec0 Ec1 Ec2 Ec3 Ec4 Ec5 Ec6 Ec7 Ec8 Elt;refine (H1.out _ B).mono ?_;rintro e u5w ⟨rfl, bq⟩;have tu5w : u4w.heap.size ≤ u5w.heap.size := bq.size;replace B := zAa B bq;replace E := zAb bq E;clear bq;obtain ⟨Ec0, Ec1, Ec2, Ec3, Ec4, Ec5, Ec6, Ec7, Ec8⟩ := zAh E;have Elt := (ltH E);go_wp2_with fail
     clear Ec0 Ec1 Ec2 Ec3 Ec4 Ec5 Ec6 Ec7 Ec8 Elt;refine (H2.out _ B).mono ?_;rintro e u6w ⟨rfl, bq⟩;have tu6w : u5w.heap.size ≤ u6w.heap.size := bq.size;replace B := zAa B bq;replace E := zAb bq E;clear bq;cases q2
     ·skip
      obtain ⟨Ec0, Ec1, Ec2, Ec3, Ec4, Ec5, Ec6, Ec7, Ec8⟩ := zAh E;have Elt := (ltH E);have HB : Hid _ := B;clear B E;go_wp2;go_ret
      exact ⟨rfl, HB.out⟩
     ·skip
      obtain ⟨Ec0, Ec1, Ec2, Ec3, Ec4, Ec5, Ec6, Ec7, Ec8⟩ := zAh E;have Elt := (ltH E);have HB : Hid _ := B;clear B E;go_wp2;go_ret
      exact ⟨by simp [Hha.out, Hhb.out, Hhd.out], HB.out⟩
   ·have zhb : (x.2.2.2.1 == 0) = false := by simp [hb]
    have Hhb : Hid (¬ x.2.2.2.1 = 0) := hb;clear hb;have B := Below.refl w.heap.size w;go_enter Tryz.func97, Tryz.ntmps97;go_upto_region 1 with fail
    generalize hu7w : w.alloc _ = u7w;have E := boxH hu7w;have bz := boxB hu7w;have zE := boxL hu7w;clear hu7w;replace B := zAa B bz;clear bz;have zEa := Nat.le_of_eq zE;have zEb := Nat.le_of_eq zE.symm;clear zE;obtain ⟨Ec0, Ec1, Ec2, Ec3, Ec4, Ec5, Ec6, Ec7, Ec8⟩ := zAh E;have Elt := (ltH E);go_wp2_with fail
    clear Ec0 Ec1 Ec2 Ec3 Ec4 Ec5 Ec6 Ec7 Ec8 Elt;refine (H1.out _ B).mono ?_;rintro e u8w ⟨rfl, bq⟩;have tu8w : u7w.heap.size ≤ u8w.heap.size := bq.size;replace B := zAa B bq;replace E := zAb bq E;clear bq;obtain ⟨Ec0, Ec1, Ec2, Ec3, Ec4, Ec5, Ec6, Ec7, Ec8⟩ := zAh E;have Elt := (ltH E);go_wp2_with fail
    clear Ec0 Ec1 Ec2 Ec3 Ec4 Ec5 Ec6 Ec7 Ec8 Elt;refine (H2.out _ B).mono ?_;rintro e u9w ⟨rfl, bq⟩;have tu9w : u8w.heap.size ≤ u9w.heap.size := bq.size;replace B := zAa B bq;replace E := zAb bq E;clear bq;cases q2
    ·skip
     obtain ⟨Ec0, Ec1, Ec2, Ec3, Ec4, Ec5, Ec6, Ec7, Ec8⟩ := zAh E;have Elt := (ltH E);have HB : Hid _ := B;clear B E;go_wp2;go_ret
     exact ⟨rfl, HB.out⟩
    ·skip
     obtain ⟨Ec0, Ec1, Ec2, Ec3, Ec4, Ec5, Ec6, Ec7, Ec8⟩ := zAh E;have Elt := (ltH E);have HB : Hid _ := B;clear B E;go_wp2;go_ret
     exact ⟨by simp [Hha.out, Hhb.out], HB.out⟩
  ·have zha : (x.2.2.1 == 0) = false := by simp [ha]
   have Hha : Hid (¬ x.2.2.1 = 0) := ha;clear ha;have B := Below.refl w.heap.size w;go_enter Tryz.func97, Tryz.ntmps97;go_upto_region 1 with fail
   generalize hu10w : w.alloc _ = u10w;have E := boxH hu10w;have bz := boxB hu10w;have zE := boxL hu10w;clear hu10w;replace B := zAa B bz;clear bz;have zEa := Nat.le_of_eq zE;have zEb := Nat.le_of_eq zE.symm;clear zE;obtain ⟨Ec0, Ec1, Ec2, Ec3, Ec4, Ec5, Ec6, Ec7, Ec8⟩ := zAh E;have Elt := (ltH E);go_wp2_with fail
   clear Ec0 Ec1 Ec2 Ec3 Ec4 Ec5 Ec6 Ec7 Ec8 Elt;refine (H1.out _ B).mono ?_;rintro e u11w ⟨rfl, bq⟩;have tu11w : u10w.heap.size ≤ u11w.heap.size := bq.size;replace B := zAa B bq;replace E := zAb bq E;clear bq;obtain ⟨Ec0, Ec1, Ec2, Ec3, Ec4, Ec5, Ec6, Ec7, Ec8⟩ := zAh E;have Elt := (ltH E);go_wp2_with fail
   clear Ec0 Ec1 Ec2 Ec3 Ec4 Ec5 Ec6 Ec7 Ec8 Elt;refine (H2.out _ B).mono ?_;rintro e u12w ⟨rfl, bq⟩;have tu12w : u11w.heap.size ≤ u12w.heap.size := bq.size;replace B := zAa B bq;replace E := zAb bq E;clear bq;cases q2
   ·skip
    obtain ⟨Ec0, Ec1, Ec2, Ec3, Ec4, Ec5, Ec6, Ec7, Ec8⟩ := zAh E;have Elt := (ltH E);have HB : Hid _ := B;clear B E;go_wp2;go_ret
    exact ⟨rfl, HB.out⟩
   ·skip
    obtain ⟨Ec0, Ec1, Ec2, Ec3, Ec4, Ec5, Ec6, Ec7, Ec8⟩ := zAh E;have Elt := (ltH E);have HB : Hid _ := B;clear B E;go_wp2;go_ret
    exact ⟨by simp [Hha.out], HB.out⟩
def zGU (l : Int) (x : zBi) : Bool := x.1.1.all fun row => row.all fun u => decide (u.1 < l)
def zBS (l : Int) (x : zBi) : Bool := zGU l x && decide (x.2.2.2.2.1.1 < l)
theorem rows_no {l : Int} {x : zBi} {j i : Nat} {row : List zC3} {u : zC3} (h1 : x.1.1[j]? = some row) (h2 : row[i]? = some u) (h : ¬ u.1 < l) : zBS l x = false := by
 have e1 : row.all (fun u => decide (u.1 < l)) = false := zBZ h2 (decide_eq_false h);have e2 : zGU l x = false := zBZ h1 e1;unfold zBS;rw [e2, Bool.false_and]
theorem rows_yes {l : Int} {x : zBi} (h : ∀ (j : Nat) row, x.1.1[j]? = some row → ∀ (i : Nat) u, row[i]? = some u → u.1 < l) : zGU l x = true := by
 refine List.all_eq_true.2 fun row hr => List.all_eq_true.2 fun u hu => ?_;obtain ⟨j, hj⟩ := List.getElem?_of_mem hr;obtain ⟨i, hi⟩ := List.getElem?_of_mem hu;exact decide_eq_true (h j row hj i u hi)
theorem zMT (l : Int) (cs : List Value) (x : zBi) (w : World) (h : zAB.rd w cs x) :
    Calls Tryz.prog 96 #[zBq cs, .int .i64 l] w fun e w' => e = .returned (.bool (zBS l x)) ∧ Below w.heap.size w w' := by
 obtain ⟨v0, v1, v2, v5, v6, v7, v8, rfl, r0, r1, i2, i3, r4, r5⟩ := zC7 h;obtain ⟨a0, c0, b0, d0, e0, sl1, sl2, -, -, k0, -⟩ := zBO r0;simp only [List.cons.injEq, and_true] at e0;obtain ⟨rfl, rfl⟩ := e0;obtain ⟨a1, c1, e1, -⟩ := r1;simp only [List.cons.injEq, and_true] at e1;obtain rfl := e1;obtain ⟨a4, c4, e4, -⟩ := zBz r4;simp only [List.cons.injEq, and_true] at e4;obtain ⟨rfl, rfl, rfl⟩ := e4;obtain ⟨a5, c5, e5, -, -, -⟩ := r5;simp only [List.cons.injEq, and_true] at e5;obtain rfl := e5;change Calls Tryz.prog 96 #[.agg #[.slice a0 x.1.1.length c0, .slice b0 x.1.2.length d0, .slice a1 x.2.1.length c1, .int .i64 x.2.2.1, .int .i64 x.2.2.2.1, .int .i64 x.2.2.2.2.1.1, .int .i64 x.2.2.2.2.1.2.1, .slice a4 x.2.2.2.2.1.2.2.length c4, .slice a5 x.2.2.2.2.2.length c5], .int .i64 l] w _
 have hsl : x.1.1.length ≤ 9223372036854775807 := Nat.le_trans sl1 sl2;have HS : Hid (∀ W, Below w.heap.size w W → zA4 zBh W a0 x.1.1) := fun W hb => zAm k0 hb;have HN : Hid (∀ (j i : Nat) row u, x.1.1[j]? = some row → row[i]? = some u → ¬ u.1 < l → zBS l x = false) := fun j i row u h1 h2 h3 => rows_no h1 h2 h3;have HY : Hid ((∀ (j : Nat) row, x.1.1[j]? = some row → ∀ (i : Nat) u, row[i]? = some u → u.1 < l) → zGU l x = true) := fun q => rows_yes q;clear h r0 r4 i2 i3 sl1 sl2 k0;go_enter Tryz.func96, Tryz.ntmps96;go_wp2;generalize hW0 : w.alloc _ = W0;have X := boxH hW0;have B := boxB hW0;clear hW0;go_loopw [5] (fun s wr => ∃ j : Nat, j ≤ x.1.1.length ∧ s = .int .i64 j ∧ (∀ (q : Nat) row, q < j → x.1.1[q]? = some row → ∀ (i : Nat) u, row[i]? = some u → u.1 < l) ∧ Below w.heap.size w wr ∧ wr.heap[w.heap.size]? = some (.cells #[.slice a0 x.1.1.length c0, .slice b0 x.1.2.length d0, .slice a1 x.2.1.length c1, .int .i64 x.2.2.1, .int .i64 x.2.2.2.1, .int .i64 x.2.2.2.2.1.1, .int .i64 x.2.2.2.2.1.2.1, .slice a4 x.2.2.2.2.1.2.2.length c4, .slice a5 x.2.2.2.2.2.length c5] 95 (0, 0))) (fun s _ => x.1.1.length - (intOf s).toNat)
 case atStart => exact ⟨0, Nat.zero_le _, rfl, fun q row hq => by omega, B, X⟩
 case round =>
  clear X B;obtain ⟨j, hj, rfl, hno, BB, XX⟩ := hrel;obtain ⟨p0, p1, p2, p3, p4, p5, p6, p7, p8⟩ := zAh XX;by_cases hlt : j < x.1.1.length
  ·have hlt' : (j : Int) < (x.1.1.length : Int) := by omega
   obtain ⟨row, hx⟩ : ∃ row, x.1.1[j]? = some row := ⟨_, List.getElem?_eq_getElem hlt⟩;obtain ⟨bb, off, cs, ra, hrdx, hcell⟩ := zAy (HS.out _ BB) hx;subst ra;obtain ⟨ra, rc, rfl, n1, n2, hrow⟩ := hrdx;have y0 := hcell 0 _ rfl;rw [show off + (j * zBh.size + 0) = off + j from by rw [show zBh.size = 1 from rfl]; omega] at y0;have hrl : row.length ≤ 9223372036854775807 := Nat.le_trans n1 n2;have HR0 : Hid (∀ W, Below wr.heap.size wr W → zA4 zBu W ra row) := fun W hb => zAm hrow hb;have HX : Hid (x.1.1[j]? = some row) := hx;have HYC : Hid (∀ W, Below wr.heap.size wr W → W.cell? ⟨bb, off + j, none⟩ = some (.slice ra row.length rc)) := fun W hb => zAe hb y0 (zAk y0);clear hx hcell hrow n1 n2 y0;go_wp2;go_loopw [6] (fun i wi => ∃ k : Nat, k ≤ row.length ∧ i = .int .i64 k ∧ (∀ (q : Nat) u, q < k → row[q]? = some u → u.1 < l) ∧ Below wr.heap.size wr wi) (fun i _ => row.length - (intOf i).toNat)
   case atStart => exact ⟨0, Nat.zero_le _, rfl, fun q u hq => by omega, Below.refl _ _⟩
   case round =>
    obtain ⟨k, hk, rfl, hno2, B2⟩ := hrel;rename_i wi
    have XI := zAb B2 XX;obtain ⟨s0, s1, s2, s3, s4, s5, s6, s7, s8⟩ := zAh XI;have y0 := HYC.out _ B2;by_cases hlt2 : k < row.length
    ·have hlt2' : (k : Int) < (row.length : Int) := by omega
     obtain ⟨u, hu⟩ : ∃ u, row[k]? = some u := ⟨_, List.getElem?_eq_getElem hlt2⟩;obtain ⟨bu, offu, cu, ru, hrdu, hcu⟩ := zAy (HR0.out _ B2) hu;subst ru;obtain ⟨ua, uc, rfl, -⟩ := zBz hrdu;have t0 := hcu 0 _ rfl;rw [show offu + (k * zBu.size + 0) = offu + k * 3 from rfl] at t0;have HU : Hid (row[k]? = some u) := hu;clear hu hcu hrdu;by_cases hul : u.1 < l
     ·have hul2 : ¬ (l ≤ u.1) := by omega
      have HUL : Hid (u.1 < l) := hul;clear hul;go_wp2;go_roundw
      case rel =>
       refine ⟨k + 1, by omega, by go_num, fun q u' hq hu' => ?_, B2⟩;by_cases he : q < k
       ·exact hno2 q u' he hu'
       ·have : q = k := by omega
        subst this;rw [HU.out] at hu';cases hu'
        exact HUL.out
      case measure => simp [intOf]; omega
     ·have hul2 : l ≤ u.1 := by omega
      have HF : Hid (zBS l x = false) := HN.out j k row u HX.out HU.out (by first | exact hul | exact hul2);clear hul;have B9 := zAa BB B2;go_wp2;go_ret
      exact ⟨zAl HF.out.symm, B9⟩
    ·have B9 := zAa BB B2;have HE9 : Hid (∀ (q : Nat) row', q < j + 1 → x.1.1[q]? = some row' → ∀ (i : Nat) u, row'[i]? = some u → u.1 < l) := fun q row' hq hr i u hu => by
      by_cases he : q < j
      ·exact hno q row' he hr i u hu
      ·have : q = j := by omega
       subst this;rw [HX.out] at hr;cases hr;exact hno2 i u (by have := (List.getElem?_eq_some_iff.1 hu).1; omega) hu
     go_wp2;go_roundw
     case rel => exact ⟨j + 1, by omega, by go_num, HE9.out, B9, XI⟩
     case measure => simp [intOf]; omega
  ·have HR : Hid (zGU l x = true) := HY.out fun q row hr => hno q row (by have := (List.getElem?_eq_some_iff.1 hr).1; omega) hr;by_cases hz : x.2.2.2.2.1.1 < l
   ·have HZ : Hid (x.2.2.2.2.1.1 < l) := hz;go_wp2;go_ret
    exact ⟨by unfold zBS; rw [HR.out]; simp [HZ.out], BB⟩
   ·have HZ : Hid (¬ x.2.2.2.2.1.1 < l) := hz;go_wp2;go_ret
    exact ⟨by unfold zBS; rw [HR.out]; simp [HZ.out], BB⟩
end Go.Proofs.YtcocbafhcpdheaaGreatDoor
