import Derived.Test.YtcocbafhcpdheaaGreatDoorT00Box
import Derived.Test.YtcocbafhcpdheaaGreatDoorT43
namespace Go.Proofs.YtcocbafhcpdheaaGreatDoor
set_option maxHeartbeats 4000000
set_option maxRecDepth 20000
open Go.ChangeShapes Go.WideShapes Go.ChangeAt Go.RowKit
set_option linter.unusedVariables false
set_option linter.unusedSimpArgs false
theorem op_eq4 (a b c d e f g h : Int) (w : World) : (Op.equalIn 10000 121 (.agg #[.int .i64 a, .int .i64 b, .int .i64 c, .int .i64 d]) (.agg #[.int .i64 e, .int .i64 f, .int .i64 g, .int .i64 h])).run Tryz.prog w = .ok (a == e && b == f && c == g && d == h) w := by
 have u3 := Tryz.underlying2;have a3 := Tryz.isAgg2;have z3 := Tryz.sizeOf2;have hst : Tryz.prog.stoodInHeld 121 = false := by kernel_rfl
 rw [show (10000 : Nat) = 9999 + 1 from rfl, Op.equalIn];simp only [Sem.run_bind, run_underlying Tryz.underlying121, Result.andThen_ok];go_simp
 by_cases h1 : a = e <;> by_cases h2 : b = f <;> by_cases h3 : c = g <;> by_cases h4 : d = h <;> simp [h1, h2, h3, h4]
theorem ev_ok (x : zBr) : ((zA8 x.1 0 3 && evC x) || evP x) = evB x := by
 unfold evB;cases hb : zA8 x.1 0 3
 ·simp
 ·have : evP x = false := by
    unfold evP;have : ¬ x.1 = 5 := fun q => by rw [q] at hb; revert hb; decide
    simp [this]
  rw [this]; simp
theorem evByCore (x : zBr) (ea : Option Addr) (ec : Nat) (w : World) (h : zA4 zAG w ea x.2.2.2.2.1) (hl : x.2.2.2.2.1.length ≤ maxLen) :
    Calls Tryz.prog 192 #[.agg #[.int .i64 x.1, .int .i64 x.2.1.1, .int .i64 x.2.1.2.1, .int .i64 x.2.1.2.2.1, .int .i64 x.2.1.2.2.2, .int .i64 x.2.2.1, .int .i64 x.2.2.2.1, .slice ea x.2.2.2.2.1.length ec, .int .i64 x.2.2.2.2.2]] w fun e w' => e = .returned (.bool (zA8 x.1 0 3 && evC x)) ∧ Below w.heap.size w w' := by
 have H1 : Hid (∀ W, Below w.heap.size w W → Calls Tryz.prog 231 #[.int .i64 x.1] W fun e w' => e = .returned (.bool (zA8 x.1 0 3)) ∧ Below W.heap.size W w') := fun W hb => (zB7 x.1 W).mono fun e w' ⟨q, r⟩ => ⟨q, zEO r⟩;have H2 : Hid (∀ W, Below w.heap.size w W → Calls Tryz.prog 232 #[.agg #[.int .i64 x.2.1.1, .int .i64 x.2.1.2.1, .int .i64 x.2.1.2.2.1, .int .i64 x.2.1.2.2.2]] W fun e w' => e = .returned (.bool (zB2 x.2.1)) ∧ Below W.heap.size W w') := fun W hb => zEw x.2.1.1 x.2.1.2.1 x.2.1.2.2.1 x.2.1.2.2.2 W;have hl2 : x.2.2.2.2.1.length ≤ 9223372036854775807 := hl;clear h hl;unfold evC;generalize zA8 x.1 0 3 = q1 at H1 ⊢;generalize zB2 x.2.1 = q2 at H2 ⊢;by_cases ha : x.2.2.1 = 0
 ·have zha : (x.2.2.1 == 0) = true := by simp [ha]
  have Hha : Hid (x.2.2.1 = 0) := ha;clear ha;by_cases hb : x.2.2.2.1 = 0
  ·have zhb : (x.2.2.2.1 == 0) = true := by simp [hb]
   have Hhb : Hid (x.2.2.2.1 = 0) := hb;clear hb;by_cases hd : x.2.2.2.2.1.length = 0
   ·have zhd : ((x.2.2.2.2.1.length : Int) == 0) = true := by simp [hd]
    have Hhd : Hid (x.2.2.2.2.1 = []) := List.length_eq_zero_iff.1 hd;clear hd;have B := Below.refl w.heap.size w;go_enter Tryz.func192, Tryz.ntmps192;go_upto_region 1 with fail
    generalize hu1w : w.alloc _ = u1w;have E := boxH hu1w;have bz := boxB hu1w;have zE := boxL hu1w;clear hu1w;replace B := zAa B bz;clear bz;have zEa := Nat.le_of_eq zE;have zEb := Nat.le_of_eq zE.symm;clear zE;obtain ⟨Ec0, Ec1, Ec2, Ec3, Ec4, Ec5, Ec6, Ec7, Ec8⟩ := zAh E;have Elt := (ltH E);go_wp2_with fail
    clear Ec0 Ec1 Ec2 Ec3 Ec4 Ec5 Ec6 Ec7 Ec8 Elt;refine (H1.out _ B).mono ?_;rintro e u2w ⟨rfl, bq⟩;have tu2w : u1w.heap.size ≤ u2w.heap.size := bq.size;replace B := zAa B bq;replace E := zAb bq E;clear bq;cases q1
    ·skip
     obtain ⟨Ec0, Ec1, Ec2, Ec3, Ec4, Ec5, Ec6, Ec7, Ec8⟩ := zAh E;have Elt := (ltH E);have HB : Hid _ := B;clear B E;go_wp2;go_ret
     exact ⟨rfl, HB.out⟩
    ·skip
     obtain ⟨Ec0, Ec1, Ec2, Ec3, Ec4, Ec5, Ec6, Ec7, Ec8⟩ := zAh E;have Elt := (ltH E);go_wp2_with fail
     clear Ec0 Ec1 Ec2 Ec3 Ec4 Ec5 Ec6 Ec7 Ec8 Elt;refine (H2.out _ B).mono ?_;rintro e u3w ⟨rfl, bq⟩;have tu3w : u2w.heap.size ≤ u3w.heap.size := bq.size;replace B := zAa B bq;replace E := zAb bq E;clear bq;cases q2
     ·skip
      obtain ⟨Ec0, Ec1, Ec2, Ec3, Ec4, Ec5, Ec6, Ec7, Ec8⟩ := zAh E;have Elt := (ltH E);have HB : Hid _ := B;clear B E;go_wp2;go_ret
      exact ⟨rfl, HB.out⟩
     ·skip
      obtain ⟨Ec0, Ec1, Ec2, Ec3, Ec4, Ec5, Ec6, Ec7, Ec8⟩ := zAh E;have Elt := (ltH E);have HB : Hid _ := B;clear B E;go_wp2;go_ret
      exact ⟨by simp [Hha.out, Hhb.out, Hhd.out], HB.out⟩
   ·have zhd : ((x.2.2.2.2.1.length : Int) == 0) = false := by simp [hd]
    have Hhd : Hid (¬ x.2.2.2.2.1 = []) := fun q => hd (List.length_eq_zero_iff.2 q);clear hd;have B := Below.refl w.heap.size w;go_enter Tryz.func192, Tryz.ntmps192;go_upto_region 1 with fail
    generalize hu4w : w.alloc _ = u4w;have E := boxH hu4w;have bz := boxB hu4w;have zE := boxL hu4w;clear hu4w;replace B := zAa B bz;clear bz;have zEa := Nat.le_of_eq zE;have zEb := Nat.le_of_eq zE.symm;clear zE;obtain ⟨Ec0, Ec1, Ec2, Ec3, Ec4, Ec5, Ec6, Ec7, Ec8⟩ := zAh E;have Elt := (ltH E);go_wp2_with fail
    clear Ec0 Ec1 Ec2 Ec3 Ec4 Ec5 Ec6 Ec7 Ec8 Elt;refine (H1.out _ B).mono ?_;rintro e u5w ⟨rfl, bq⟩;have tu5w : u4w.heap.size ≤ u5w.heap.size := bq.size;replace B := zAa B bq;replace E := zAb bq E;clear bq;cases q1
    ·skip
     obtain ⟨Ec0, Ec1, Ec2, Ec3, Ec4, Ec5, Ec6, Ec7, Ec8⟩ := zAh E;have Elt := (ltH E);have HB : Hid _ := B;clear B E;go_wp2;go_ret
     exact ⟨rfl, HB.out⟩
    ·skip
     obtain ⟨Ec0, Ec1, Ec2, Ec3, Ec4, Ec5, Ec6, Ec7, Ec8⟩ := zAh E;have Elt := (ltH E);go_wp2_with fail
     clear Ec0 Ec1 Ec2 Ec3 Ec4 Ec5 Ec6 Ec7 Ec8 Elt;refine (H2.out _ B).mono ?_;rintro e u6w ⟨rfl, bq⟩;have tu6w : u5w.heap.size ≤ u6w.heap.size := bq.size;replace B := zAa B bq;replace E := zAb bq E;clear bq;cases q2
     ·skip
      obtain ⟨Ec0, Ec1, Ec2, Ec3, Ec4, Ec5, Ec6, Ec7, Ec8⟩ := zAh E;have Elt := (ltH E);have HB : Hid _ := B;clear B E;go_wp2;go_ret
      exact ⟨rfl, HB.out⟩
     ·skip
      obtain ⟨Ec0, Ec1, Ec2, Ec3, Ec4, Ec5, Ec6, Ec7, Ec8⟩ := zAh E;have Elt := (ltH E);have HB : Hid _ := B;clear B E;go_wp2;go_ret
      exact ⟨by simp [Hha.out, Hhb.out, Hhd.out], HB.out⟩
  ·have zhb : (x.2.2.2.1 == 0) = false := by simp [hb]
   have Hhb : Hid (¬ x.2.2.2.1 = 0) := hb;clear hb;have B := Below.refl w.heap.size w;go_enter Tryz.func192, Tryz.ntmps192;go_upto_region 1 with fail
   generalize hu7w : w.alloc _ = u7w;have E := boxH hu7w;have bz := boxB hu7w;have zE := boxL hu7w;clear hu7w;replace B := zAa B bz;clear bz;have zEa := Nat.le_of_eq zE;have zEb := Nat.le_of_eq zE.symm;clear zE;obtain ⟨Ec0, Ec1, Ec2, Ec3, Ec4, Ec5, Ec6, Ec7, Ec8⟩ := zAh E;have Elt := (ltH E);go_wp2_with fail
   clear Ec0 Ec1 Ec2 Ec3 Ec4 Ec5 Ec6 Ec7 Ec8 Elt;refine (H1.out _ B).mono ?_;rintro e u8w ⟨rfl, bq⟩;have tu8w : u7w.heap.size ≤ u8w.heap.size := bq.size;replace B := zAa B bq;replace E := zAb bq E;clear bq;cases q1
   ·skip
    obtain ⟨Ec0, Ec1, Ec2, Ec3, Ec4, Ec5, Ec6, Ec7, Ec8⟩ := zAh E;have Elt := (ltH E);have HB : Hid _ := B;clear B E;go_wp2;go_ret
    exact ⟨rfl, HB.out⟩
   ·skip
    obtain ⟨Ec0, Ec1, Ec2, Ec3, Ec4, Ec5, Ec6, Ec7, Ec8⟩ := zAh E;have Elt := (ltH E);go_wp2_with fail
    clear Ec0 Ec1 Ec2 Ec3 Ec4 Ec5 Ec6 Ec7 Ec8 Elt;refine (H2.out _ B).mono ?_;rintro e u9w ⟨rfl, bq⟩;have tu9w : u8w.heap.size ≤ u9w.heap.size := bq.size;replace B := zAa B bq;replace E := zAb bq E;clear bq;cases q2
    ·skip
     obtain ⟨Ec0, Ec1, Ec2, Ec3, Ec4, Ec5, Ec6, Ec7, Ec8⟩ := zAh E;have Elt := (ltH E);have HB : Hid _ := B;clear B E;go_wp2;go_ret
     exact ⟨rfl, HB.out⟩
    ·skip
     obtain ⟨Ec0, Ec1, Ec2, Ec3, Ec4, Ec5, Ec6, Ec7, Ec8⟩ := zAh E;have Elt := (ltH E);have HB : Hid _ := B;clear B E;go_wp2;go_ret
     exact ⟨by simp [Hha.out, Hhb.out], HB.out⟩
 ·have zha : (x.2.2.1 == 0) = false := by simp [ha]
  have Hha : Hid (¬ x.2.2.1 = 0) := ha;clear ha;have B := Below.refl w.heap.size w;go_enter Tryz.func192, Tryz.ntmps192;go_upto_region 1 with fail
  generalize hu10w : w.alloc _ = u10w;have E := boxH hu10w;have bz := boxB hu10w;have zE := boxL hu10w;clear hu10w;replace B := zAa B bz;clear bz;have zEa := Nat.le_of_eq zE;have zEb := Nat.le_of_eq zE.symm;clear zE;obtain ⟨Ec0, Ec1, Ec2, Ec3, Ec4, Ec5, Ec6, Ec7, Ec8⟩ := zAh E;have Elt := (ltH E);go_wp2_with fail
  clear Ec0 Ec1 Ec2 Ec3 Ec4 Ec5 Ec6 Ec7 Ec8 Elt;refine (H1.out _ B).mono ?_;rintro e u11w ⟨rfl, bq⟩;have tu11w : u10w.heap.size ≤ u11w.heap.size := bq.size;replace B := zAa B bq;replace E := zAb bq E;clear bq;cases q1
  ·skip
   obtain ⟨Ec0, Ec1, Ec2, Ec3, Ec4, Ec5, Ec6, Ec7, Ec8⟩ := zAh E;have Elt := (ltH E);have HB : Hid _ := B;clear B E;go_wp2;go_ret
   exact ⟨rfl, HB.out⟩
  ·skip
   obtain ⟨Ec0, Ec1, Ec2, Ec3, Ec4, Ec5, Ec6, Ec7, Ec8⟩ := zAh E;have Elt := (ltH E);go_wp2_with fail
   clear Ec0 Ec1 Ec2 Ec3 Ec4 Ec5 Ec6 Ec7 Ec8 Elt;refine (H2.out _ B).mono ?_;rintro e u12w ⟨rfl, bq⟩;have tu12w : u11w.heap.size ≤ u12w.heap.size := bq.size;replace B := zAa B bq;replace E := zAb bq E;clear bq;cases q2
   ·skip
    obtain ⟨Ec0, Ec1, Ec2, Ec3, Ec4, Ec5, Ec6, Ec7, Ec8⟩ := zAh E;have Elt := (ltH E);have HB : Hid _ := B;clear B E;go_wp2;go_ret
    exact ⟨rfl, HB.out⟩
   ·skip
    obtain ⟨Ec0, Ec1, Ec2, Ec3, Ec4, Ec5, Ec6, Ec7, Ec8⟩ := zAh E;have Elt := (ltH E);have HB : Hid _ := B;clear B E;go_wp2;go_ret
    exact ⟨by simp [Hha.out], HB.out⟩
theorem evByDma (x : zBr) (ea : Option Addr) (ec : Nat) (w : World) (h : zA4 zAG w ea x.2.2.2.2.1) (hl : x.2.2.2.2.1.length ≤ maxLen) :
    Calls Tryz.prog 193 #[.agg #[.int .i64 x.1, .int .i64 x.2.1.1, .int .i64 x.2.1.2.1, .int .i64 x.2.1.2.2.1, .int .i64 x.2.1.2.2.2, .int .i64 x.2.2.1, .int .i64 x.2.2.2.1, .slice ea x.2.2.2.2.1.length ec, .int .i64 x.2.2.2.2.2]] w fun e w' => e = .returned (.bool (evP x)) ∧ Below w.heap.size w w' := by
 have H3 : Hid (∀ W, Below w.heap.size w W → Calls Tryz.prog 229 #[.int .i64 x.2.2.1] W fun e w' => e = .returned (.bool (zA8 x.2.2.1 0 15)) ∧ Below W.heap.size W w') := fun W hb => (zCy x.2.2.1 W).mono fun e w' ⟨q, r⟩ => ⟨q, zEO r⟩;have H4 : Hid (∀ W, Below w.heap.size w W → Calls Tryz.prog 233 #[.int .i64 x.2.2.2.1] W fun e w' => e = .returned (.bool (zA8 x.2.2.2.1 0 3)) ∧ Below W.heap.size W w') := fun W hb => (zDn x.2.2.2.1 W).mono fun e w' ⟨q, r⟩ => ⟨q, zEO r⟩;have H5 : Hid (∀ W, Below w.heap.size w W → Calls Tryz.prog 224 #[.slice ea x.2.2.2.2.1.length ec] W fun e w' => e = .returned (.bool (isL x.2.2.2.2.1)) ∧ Below W.heap.size W w') := fun W hb => zBK ea x.2.2.2.2.1 ec W (zBv (zAm h hb));clear h hl;unfold evP;generalize zA8 x.2.2.1 0 15 = q3 at H3 ⊢;generalize zA8 x.2.2.2.1 0 3 = q4 at H4 ⊢;generalize isL x.2.2.2.2.1 = q5 at H5 ⊢;by_cases ha : x.1 = 5
 ·have zha : (x.1 == 5) = true := by simp [ha]
  have Hha : Hid (x.1 = 5) := ha;clear ha;by_cases hk : x.2.1 = (0, 0, 0, 0)
  ·have zhk : ∀ V, (Op.equalIn 10000 121 (.agg #[.int .i64 x.2.1.1, .int .i64 x.2.1.2.1, .int .i64 x.2.1.2.2.1, .int .i64 x.2.1.2.2.2]) (.agg #[.int .i64 0, .int .i64 0, .int .i64 0, .int .i64 0])).run Tryz.prog V = .ok true V := fun V => by rw [op_eq4]; rw [hk]; rfl
   have Hhk : Hid (x.2.1 = (0, 0, 0, 0)) := hk;clear hk;by_cases ht : x.2.2.2.2.2 = 0
   ·have zht : (x.2.2.2.2.2 == 0) = true := by simp [ht]
    have Hht : Hid (x.2.2.2.2.2 = 0) := ht;clear ht;have B := Below.refl w.heap.size w;go_enter Tryz.func193, Tryz.ntmps193;go_upto_region 1 with fail
    generalize hu1w : w.alloc _ = u1w;have E := boxH hu1w;have bz := boxB hu1w;have zE := boxL hu1w;clear hu1w;replace B := zAa B bz;clear bz;have zEa := Nat.le_of_eq zE;have zEb := Nat.le_of_eq zE.symm;clear zE;obtain ⟨Ec0, Ec1, Ec2, Ec3, Ec4, Ec5, Ec6, Ec7, Ec8⟩ := zAh E;have Elt := (ltH E);go_wp2_with fail
    clear Ec0 Ec1 Ec2 Ec3 Ec4 Ec5 Ec6 Ec7 Ec8 Elt;refine (H3.out _ B).mono ?_;rintro e u2w ⟨rfl, bq⟩;have tu2w : u1w.heap.size ≤ u2w.heap.size := bq.size;replace B := zAa B bq;replace E := zAb bq E;clear bq;cases q3
    ·skip
     obtain ⟨Ec0, Ec1, Ec2, Ec3, Ec4, Ec5, Ec6, Ec7, Ec8⟩ := zAh E;have Elt := (ltH E);have HB : Hid _ := B;clear B E;go_wp2;go_ret
     exact ⟨by simp [Hha.out, Hhk.out, Hht.out], HB.out⟩
    ·skip
     obtain ⟨Ec0, Ec1, Ec2, Ec3, Ec4, Ec5, Ec6, Ec7, Ec8⟩ := zAh E;have Elt := (ltH E);go_wp2_with fail
     clear Ec0 Ec1 Ec2 Ec3 Ec4 Ec5 Ec6 Ec7 Ec8 Elt;refine (H4.out _ B).mono ?_;rintro e u3w ⟨rfl, bq⟩;have tu3w : u2w.heap.size ≤ u3w.heap.size := bq.size;replace B := zAa B bq;replace E := zAb bq E;clear bq;cases q4
     ·skip
      obtain ⟨Ec0, Ec1, Ec2, Ec3, Ec4, Ec5, Ec6, Ec7, Ec8⟩ := zAh E;have Elt := (ltH E);have HB : Hid _ := B;clear B E;go_wp2;go_ret
      exact ⟨by simp [Hha.out, Hhk.out, Hht.out], HB.out⟩
     ·skip
      obtain ⟨Ec0, Ec1, Ec2, Ec3, Ec4, Ec5, Ec6, Ec7, Ec8⟩ := zAh E;have Elt := (ltH E);go_wp2_with fail
      clear Ec0 Ec1 Ec2 Ec3 Ec4 Ec5 Ec6 Ec7 Ec8 Elt;refine (H5.out _ B).mono ?_;rintro e u4w ⟨rfl, bq⟩;have tu4w : u3w.heap.size ≤ u4w.heap.size := bq.size;replace B := zAa B bq;replace E := zAb bq E;clear bq;obtain ⟨Ec0, Ec1, Ec2, Ec3, Ec4, Ec5, Ec6, Ec7, Ec8⟩ := zAh E;have Elt := (ltH E);have HB : Hid _ := B;clear B E;go_wp2;go_ret
      exact ⟨by simp [Hha.out, Hhk.out, Hht.out], HB.out⟩
   ·have zht : (x.2.2.2.2.2 == 0) = false := by simp [ht]
    have Hht : Hid (¬ x.2.2.2.2.2 = 0) := ht;clear ht;have B := Below.refl w.heap.size w;go_enter Tryz.func193, Tryz.ntmps193;go_upto_region 1 with fail
    generalize hu5w : w.alloc _ = u5w;have E := boxH hu5w;have bz := boxB hu5w;have zE := boxL hu5w;clear hu5w;replace B := zAa B bz;clear bz;have zEa := Nat.le_of_eq zE;have zEb := Nat.le_of_eq zE.symm;clear zE;obtain ⟨Ec0, Ec1, Ec2, Ec3, Ec4, Ec5, Ec6, Ec7, Ec8⟩ := zAh E;have Elt := (ltH E);have HB : Hid _ := B;clear B E;go_wp2;go_ret
    exact ⟨by simp [Hha.out, Hhk.out, Hht.out], HB.out⟩
  ·have zhk : ∀ V, (Op.equalIn 10000 121 (.agg #[.int .i64 x.2.1.1, .int .i64 x.2.1.2.1, .int .i64 x.2.1.2.2.1, .int .i64 x.2.1.2.2.2]) (.agg #[.int .i64 0, .int .i64 0, .int .i64 0, .int .i64 0])).run Tryz.prog V = .ok false V := fun V => by rw [op_eq4]; congr 1; refine Bool.eq_false_iff.2 fun q => hk ?_; simp only [Bool.and_eq_true, beq_iff_eq] at q; exact Prod.ext q.1.1.1 (Prod.ext q.1.1.2 (Prod.ext q.1.2 q.2))
   have Hhk : Hid (¬ x.2.1 = (0, 0, 0, 0)) := hk;clear hk;have B := Below.refl w.heap.size w;go_enter Tryz.func193, Tryz.ntmps193;go_upto_region 1 with fail
   generalize hu6w : w.alloc _ = u6w;have E := boxH hu6w;have bz := boxB hu6w;have zE := boxL hu6w;clear hu6w;replace B := zAa B bz;clear bz;have zEa := Nat.le_of_eq zE;have zEb := Nat.le_of_eq zE.symm;clear zE;obtain ⟨Ec0, Ec1, Ec2, Ec3, Ec4, Ec5, Ec6, Ec7, Ec8⟩ := zAh E;have Elt := (ltH E);have HB : Hid _ := B;clear B E;go_wp2;go_ret
   exact ⟨by simp [Hha.out, Hhk.out], HB.out⟩
 ·have zha : (x.1 == 5) = false := by simp [ha]
  have Hha : Hid (¬ x.1 = 5) := ha;clear ha;have B := Below.refl w.heap.size w;go_enter Tryz.func193, Tryz.ntmps193;go_upto_region 1 with fail
  generalize hu7w : w.alloc _ = u7w;have E := boxH hu7w;have bz := boxB hu7w;have zE := boxL hu7w;clear hu7w;replace B := zAa B bz;clear bz;have zEa := Nat.le_of_eq zE;have zEb := Nat.le_of_eq zE.symm;clear zE;obtain ⟨Ec0, Ec1, Ec2, Ec3, Ec4, Ec5, Ec6, Ec7, Ec8⟩ := zAh E;have Elt := (ltH E);have HB : Hid _ := B;clear B E;go_wp2;go_ret
  exact ⟨by simp [Hha.out], HB.out⟩
theorem evOk (x : zBr) (ea : Option Addr) (ec : Nat) (w : World) (h : zA4 zAG w ea x.2.2.2.2.1) (hl : x.2.2.2.2.1.length ≤ maxLen) :
    Calls Tryz.prog 131 #[.agg #[.int .i64 x.1, .int .i64 x.2.1.1, .int .i64 x.2.1.2.1, .int .i64 x.2.1.2.2.1, .int .i64 x.2.1.2.2.2, .int .i64 x.2.2.1, .int .i64 x.2.2.2.1, .slice ea x.2.2.2.2.1.length ec, .int .i64 x.2.2.2.2.2]] w fun e w' => e = .returned (.bool (evB x)) ∧ Below w.heap.size w w' := by
 have H1 : Hid (∀ W, Below w.heap.size w W → Calls Tryz.prog 192 #[.agg #[.int .i64 x.1, .int .i64 x.2.1.1, .int .i64 x.2.1.2.1, .int .i64 x.2.1.2.2.1, .int .i64 x.2.1.2.2.2, .int .i64 x.2.2.1, .int .i64 x.2.2.2.1, .slice ea x.2.2.2.2.1.length ec, .int .i64 x.2.2.2.2.2]] W fun e w' => e = .returned (.bool (zA8 x.1 0 3 && evC x)) ∧ Below W.heap.size W w') := fun W hb => evByCore x ea ec W (zAm h hb) hl;have H2 : Hid (∀ W, Below w.heap.size w W → Calls Tryz.prog 193 #[.agg #[.int .i64 x.1, .int .i64 x.2.1.1, .int .i64 x.2.1.2.1, .int .i64 x.2.1.2.2.1, .int .i64 x.2.1.2.2.2, .int .i64 x.2.2.1, .int .i64 x.2.2.2.1, .slice ea x.2.2.2.2.1.length ec, .int .i64 x.2.2.2.2.2]] W fun e w' => e = .returned (.bool (evP x)) ∧ Below W.heap.size W w') := fun W hb => evByDma x ea ec W (zAm h hb) hl;rw [← ev_ok];clear h hl;generalize (zA8 x.1 0 3 && evC x) = q1 at H1 ⊢;generalize evP x = q2 at H2 ⊢;have B := Below.refl w.heap.size w;go_enter Tryz.func131, Tryz.ntmps131;go_upto_region 1 with fail
 generalize hu1w : w.alloc _ = u1w;have E := boxH hu1w;have bz := boxB hu1w;have zE := boxL hu1w;clear hu1w;replace B := zAa B bz;clear bz;have zEa := Nat.le_of_eq zE;have zEb := Nat.le_of_eq zE.symm;clear zE;obtain ⟨Ec0, Ec1, Ec2, Ec3, Ec4, Ec5, Ec6, Ec7, Ec8⟩ := zAh E;have Elt := (ltH E);go_wp2_with fail
 clear Ec0 Ec1 Ec2 Ec3 Ec4 Ec5 Ec6 Ec7 Ec8 Elt;refine (H1.out _ B).mono ?_;rintro e u2w ⟨rfl, bq⟩;have tu2w : u1w.heap.size ≤ u2w.heap.size := bq.size;replace B := zAa B bq;replace E := zAb bq E;clear bq;cases q1
 ·skip
  obtain ⟨Ec0, Ec1, Ec2, Ec3, Ec4, Ec5, Ec6, Ec7, Ec8⟩ := zAh E;have Elt := (ltH E);go_wp2_with fail
  clear Ec0 Ec1 Ec2 Ec3 Ec4 Ec5 Ec6 Ec7 Ec8 Elt;refine (H2.out _ B).mono ?_;rintro e u3w ⟨rfl, bq⟩;have tu3w : u2w.heap.size ≤ u3w.heap.size := bq.size;replace B := zAa B bq;replace E := zAb bq E;clear bq;obtain ⟨Ec0, Ec1, Ec2, Ec3, Ec4, Ec5, Ec6, Ec7, Ec8⟩ := zAh E;have Elt := (ltH E);have HB : Hid _ := B;clear B E;go_wp2;go_ret
  exact ⟨by simp, HB.out⟩
 ·skip
  obtain ⟨Ec0, Ec1, Ec2, Ec3, Ec4, Ec5, Ec6, Ec7, Ec8⟩ := zAh E;have Elt := (ltH E);have HB : Hid _ := B;clear B E;go_wp2;go_ret
  exact ⟨by simp, HB.out⟩
theorem zI9 (x : zA2) (a1 : Option Addr) (c1 : Nat) (b1 : Option Addr) (d1 : Nat) (a2 : Option Addr) (c2 : Nat) (a3 : Option Addr) (c3 : Nat) (b3 : Option Addr) (d3 : Nat) (a4 : Option Addr) (c4 : Nat) (a5 : Option Addr) (c5 : Nat) (w : World) (R : FabRd w x a1 c1 b1 d1 a2 c2 a3 c3 b3 d3 a4 c4 a5 c5) :
    Calls Tryz.prog 75 #[.agg #[.int .i64 x.1.1, .int .i64 x.1.2.1, .int .i64 x.1.2.2.1, .int .i64 x.1.2.2.2, .slice a1 x.2.1.1.length c1, .slice b1 x.2.1.2.length d1, .slice a2 x.2.2.1.length c2, .slice a3 x.2.2.2.1.1.length c3, .int .i64 x.2.2.2.1.2.1, .bool x.2.2.2.1.2.2.1, .slice b3 x.2.2.2.1.2.2.2.length d3, .slice a4 x.2.2.2.2.1.length c4, .slice a5 x.2.2.2.2.2.length c5]] w fun e w' => e = .returned (.bool (decide (x.2.2.2.2.2.length ≤ 200) && x.2.2.2.2.2.all evB)) ∧ Below w.heap.size w w' := by
 have H1 : Hid (∀ W, Below w.heap.size w W → Calls Tryz.prog 130 #[.slice a5 x.2.2.2.2.2.length c5, .func (.func 131) #[] #[]] W fun e w' => e = .returned (.bool (x.2.2.2.2.2.all evB)) ∧ Below W.heap.size W w') := fun W hb => zKU a5 x.2.2.2.2.2 c5 W (zAm R.evs hb) R.evsl (fun u cs V hu hv hr => by
  obtain ⟨ga, gc, rfl, q1, q2, q3⟩ := zE4 hr
  exact evOk u ga gc V q3 (Nat.le_trans q1 q2))
 have l4 : x.2.2.2.2.2.length ≤ 9223372036854775807 := R.evsl;generalize x.2.2.2.2.2.all evB = q1 at H1 ⊢;clear R;by_cases hz : x.2.2.2.2.2.length ≤ 200
 ·have zt : (x.2.2.2.2.2.length : Int) ≤ 200 := by omega
  have HZ : Hid (x.2.2.2.2.2.length ≤ 200) := hz;clear hz;have B := Below.refl w.heap.size w;go_enter Tryz.func75, Tryz.ntmps75;go_upto_region 1 with fail
  generalize hu1w : w.alloc _ = u1w;have F := boxH hu1w;have bz := boxB hu1w;have zF := boxL hu1w;clear hu1w;replace B := zAa B bz;clear bz;have zFa := Nat.le_of_eq zF;have zFb := Nat.le_of_eq zF.symm;clear zF;obtain ⟨Fc0, Fc1, Fc2, Fc3, Fc4, Fc5, Fc6, Fc7, Fc8, Fc9, Fc10, Fc11, Fc12⟩ := zAd F;have Flt := (ltH F);go_wp2_with fail
  clear Fc0 Fc1 Fc2 Fc3 Fc4 Fc5 Fc6 Fc7 Fc8 Fc9 Fc10 Fc11 Fc12 Flt;refine (H1.out _ B).mono ?_;rintro e u2w ⟨rfl, bq⟩;have tu2w : u1w.heap.size ≤ u2w.heap.size := bq.size;replace B := zAa B bq;replace F := zAb bq F;clear bq;obtain ⟨Fc0, Fc1, Fc2, Fc3, Fc4, Fc5, Fc6, Fc7, Fc8, Fc9, Fc10, Fc11, Fc12⟩ := zAd F;have Flt := (ltH F);have HB : Hid _ := B;clear B F;go_wp2;go_ret
  exact ⟨by simp [HZ.out], HB.out⟩
 ·have zt : ¬ ((x.2.2.2.2.2.length : Int) ≤ 200) := by omega
  have HZ : Hid (¬ x.2.2.2.2.2.length ≤ 200) := hz;clear hz;have B := Below.refl w.heap.size w;go_enter Tryz.func75, Tryz.ntmps75;go_upto_region 1 with fail
  generalize hu1w : w.alloc _ = u1w;have F := boxH hu1w;have bz := boxB hu1w;have zF := boxL hu1w;clear hu1w;replace B := zAa B bz;clear bz;have zFa := Nat.le_of_eq zF;have zFb := Nat.le_of_eq zF.symm;clear zF;obtain ⟨Fc0, Fc1, Fc2, Fc3, Fc4, Fc5, Fc6, Fc7, Fc8, Fc9, Fc10, Fc11, Fc12⟩ := zAd F;have Flt := (ltH F);have HB : Hid _ := B;clear B F;go_wp2;go_ret
  exact ⟨by simp [HZ.out], HB.out⟩
theorem zGi (x : zA2) (a1 : Option Addr) (c1 : Nat) (b1 : Option Addr) (d1 : Nat) (a2 : Option Addr) (c2 : Nat) (a3 : Option Addr) (c3 : Nat) (b3 : Option Addr) (d3 : Nat) (a4 : Option Addr) (c4 : Nat) (a5 : Option Addr) (c5 : Nat) (w : World) (R : FabRd w x a1 c1 b1 d1 a2 c2 a3 c3 b3 d3 a4 c4 a5 c5) (hh : Hold w) :
    Calls Tryz.prog 35 #[.agg #[.int .i64 x.1.1, .int .i64 x.1.2.1, .int .i64 x.1.2.2.1, .int .i64 x.1.2.2.2, .slice a1 x.2.1.1.length c1, .slice b1 x.2.1.2.length d1, .slice a2 x.2.2.1.length c2, .slice a3 x.2.2.2.1.1.length c3, .int .i64 x.2.2.2.1.2.1, .bool x.2.2.2.1.2.2.1, .slice b3 x.2.2.2.1.2.2.2.length d3, .slice a4 x.2.2.2.2.1.length c4, .slice a5 x.2.2.2.2.2.length c5]] w fun e w' => e = .returned (.bool (zFj x)) ∧ Below w.heap.size w w' := by
 have s : Hid _ := fun (W : World) (hb : Below w.heap.size w W) => zDc x.1.1 x.1.2.1 x.1.2.2.1 x.1.2.2.2 W;have m : Hid (zBe x.1.1 x.1.2.1 x.1.2.2.1 x.1.2.2.2 = 0 → ∀ W, Below w.heap.size w W → Calls Tryz.prog 71 #[.agg #[.int .i64 x.1.1, .int .i64 x.1.2.1, .int .i64 x.1.2.2.1, .int .i64 x.1.2.2.2, .slice a1 x.2.1.1.length c1, .slice b1 x.2.1.2.length d1, .slice a2 x.2.2.1.length c2, .slice a3 x.2.2.2.1.1.length c3, .int .i64 x.2.2.2.1.2.1, .bool x.2.2.2.1.2.2.1, .slice b3 x.2.2.2.1.2.2.2.length d3, .slice a4 x.2.2.2.2.1.length c4, .slice a5 x.2.2.2.2.2.length c5]] W fun e w' => e = .returned (.bool (zDl x)) ∧ Below W.heap.size W w') := fun hc W hb => zJH x a1 c1 b1 d1 a2 c2 a3 c3 b3 d3 a4 c4 a5 c5 W hc (zBP R hb);have o : Hid (zBe x.1.1 x.1.2.1 x.1.2.2.1 x.1.2.2.2 = 0 → ∀ W, Below w.heap.size w W → Calls Tryz.prog 72 #[.agg #[.int .i64 x.1.1, .int .i64 x.1.2.1, .int .i64 x.1.2.2.1, .int .i64 x.1.2.2.2, .slice a1 x.2.1.1.length c1, .slice b1 x.2.1.2.length d1, .slice a2 x.2.2.1.length c2, .slice a3 x.2.2.2.1.1.length c3, .int .i64 x.2.2.2.1.2.1, .bool x.2.2.2.1.2.2.1, .slice b3 x.2.2.2.1.2.2.2.length d3, .slice a4 x.2.2.2.2.1.length c4, .slice a5 x.2.2.2.2.2.length c5]] W fun e w' => e = .returned (.bool (zDm x)) ∧ Below W.heap.size W w') := fun hc W hb => zJG x a1 c1 b1 d1 a2 c2 a3 c3 b3 d3 a4 c4 a5 c5 W hc (zBP R hb) (hh.goes hb);have n : Hid (zBe x.1.1 x.1.2.1 x.1.2.2.1 x.1.2.2.2 = 0 → ∀ W, Below w.heap.size w W → Calls Tryz.prog 73 #[.agg #[.int .i64 x.1.1, .int .i64 x.1.2.1, .int .i64 x.1.2.2.1, .int .i64 x.1.2.2.2, .slice a1 x.2.1.1.length c1, .slice b1 x.2.1.2.length d1, .slice a2 x.2.2.1.length c2, .slice a3 x.2.2.2.1.1.length c3, .int .i64 x.2.2.2.1.2.1, .bool x.2.2.2.1.2.2.1, .slice b3 x.2.2.2.1.2.2.2.length d3, .slice a4 x.2.2.2.2.1.length c4, .slice a5 x.2.2.2.2.2.length c5]] W fun e w' => e = .returned (.bool (zGT x)) ∧ Below W.heap.size W w') := fun hc W hb => zMS x a1 c1 b1 d1 a2 c2 a3 c3 b3 d3 a4 c4 a5 c5 W hc (zBP R hb) (hh.goes hb);have p : Hid (zBe x.1.1 x.1.2.1 x.1.2.2.1 x.1.2.2.2 = 0 → ∀ W, Below w.heap.size w W → Calls Tryz.prog 74 #[.agg #[.int .i64 x.1.1, .int .i64 x.1.2.1, .int .i64 x.1.2.2.1, .int .i64 x.1.2.2.2, .slice a1 x.2.1.1.length c1, .slice b1 x.2.1.2.length d1, .slice a2 x.2.2.1.length c2, .slice a3 x.2.2.2.1.1.length c3, .int .i64 x.2.2.2.1.2.1, .bool x.2.2.2.1.2.2.1, .slice b3 x.2.2.2.1.2.2.2.length d3, .slice a4 x.2.2.2.2.1.length c4, .slice a5 x.2.2.2.2.2.length c5]] W fun e w' => e = .returned (.bool (zGP x)) ∧ Below W.heap.size W w') := fun hc W hb => zMO x a1 c1 b1 d1 a2 c2 a3 c3 b3 d3 a4 c4 a5 c5 W hc (zBP R hb);have v : Hid _ := fun (W : World) (hb : Below w.heap.size w W) => zI9 x a1 c1 b1 d1 a2 c2 a3 c3 b3 d3 a4 c4 a5 c5 W (zBP R hb);unfold zFj;clear R hh;generalize zBe x.1.1 x.1.2.1 x.1.2.2.1 x.1.2.2.2 = kc at s m o n p ⊢;generalize zDl x = q1 at m ⊢;generalize zDm x = q2 at o ⊢;generalize zGT x = q3 at n ⊢;generalize zGP x = q4 at p ⊢;generalize (decide (x.2.2.2.2.2.length ≤ 200) && x.2.2.2.2.2.all evB) = q5 at v ⊢;have B := Below.refl w.heap.size w;go_enter Tryz.func35, Tryz.ntmps35;go_upto_region 1 with fail
 generalize b : w.alloc _ = u1w;have F := boxH b;have y := boxB b;have l := boxL b;clear b;replace B := zAa B y;clear y;have I := Nat.le_of_eq l;have H := Nat.le_of_eq l.symm;clear l;obtain ⟨Fc0, Fc1, Fc2, Fc3, Fc4, Fc5, Fc6, Fc7, Fc8, Fc9, Fc10, Fc11, Fc12⟩ := zAd F;have Flt := (ltH F);go_wp2_with fail
 clear Fc0 Fc1 Fc2 Fc3 Fc4 Fc5 Fc6 Fc7 Fc8 Fc9 Fc10 Fc11 Fc12 Flt;refine (s.out _ B).mono ?_;rintro e j ⟨rfl, a⟩;have r : u1w.heap.size ≤ j.heap.size := a.size;replace B := zAa B a;replace F := zAb a F;clear a;by_cases d : kc = 0
 ·have G : (kc == 0) = true := by simp [d]
  subst d;have d : (0 : Int) = 0 := rfl;clear d;obtain ⟨Fc0, Fc1, Fc2, Fc3, Fc4, Fc5, Fc6, Fc7, Fc8, Fc9, Fc10, Fc11, Fc12⟩ := zAd F;have Flt := (ltH F);go_wp2_with fail
  clear Fc0 Fc1 Fc2 Fc3 Fc4 Fc5 Fc6 Fc7 Fc8 Fc9 Fc10 Fc11 Fc12 Flt;refine (m.out (by first | rfl | trivial) _ B).mono ?_;rintro e i ⟨rfl, a⟩;have D : j.heap.size ≤ i.heap.size := a.size;replace B := zAa B a;replace F := zAb a F;clear a;cases q1
  ·skip
   obtain ⟨Fc0, Fc1, Fc2, Fc3, Fc4, Fc5, Fc6, Fc7, Fc8, Fc9, Fc10, Fc11, Fc12⟩ := zAd F;have Flt := (ltH F);have c : Hid _ := B;clear B F;go_wp2;go_ret
   exact ⟨by simp, c.out⟩
  ·skip
   obtain ⟨Fc0, Fc1, Fc2, Fc3, Fc4, Fc5, Fc6, Fc7, Fc8, Fc9, Fc10, Fc11, Fc12⟩ := zAd F;have Flt := (ltH F);go_wp2_with fail
   clear Fc0 Fc1 Fc2 Fc3 Fc4 Fc5 Fc6 Fc7 Fc8 Fc9 Fc10 Fc11 Fc12 Flt;refine (o.out (by first | rfl | trivial) _ B).mono ?_;rintro e g ⟨rfl, a⟩;have C : i.heap.size ≤ g.heap.size := a.size;replace B := zAa B a;replace F := zAb a F;clear a;cases q2
   ·skip
    obtain ⟨Fc0, Fc1, Fc2, Fc3, Fc4, Fc5, Fc6, Fc7, Fc8, Fc9, Fc10, Fc11, Fc12⟩ := zAd F;have Flt := (ltH F);have c : Hid _ := B;clear B F;go_wp2;go_ret
    exact ⟨by simp, c.out⟩
   ·skip
    obtain ⟨Fc0, Fc1, Fc2, Fc3, Fc4, Fc5, Fc6, Fc7, Fc8, Fc9, Fc10, Fc11, Fc12⟩ := zAd F;have Flt := (ltH F);go_wp2_with fail
    clear Fc0 Fc1 Fc2 Fc3 Fc4 Fc5 Fc6 Fc7 Fc8 Fc9 Fc10 Fc11 Fc12 Flt;refine (n.out (by first | rfl | trivial) _ B).mono ?_;rintro e k ⟨rfl, a⟩;have z : g.heap.size ≤ k.heap.size := a.size;replace B := zAa B a;replace F := zAb a F;clear a;cases q3
    ·skip
     obtain ⟨Fc0, Fc1, Fc2, Fc3, Fc4, Fc5, Fc6, Fc7, Fc8, Fc9, Fc10, Fc11, Fc12⟩ := zAd F;have Flt := (ltH F);have c : Hid _ := B;clear B F;go_wp2;go_ret
     exact ⟨by simp, c.out⟩
    ·skip
     obtain ⟨Fc0, Fc1, Fc2, Fc3, Fc4, Fc5, Fc6, Fc7, Fc8, Fc9, Fc10, Fc11, Fc12⟩ := zAd F;have Flt := (ltH F);go_wp2_with fail
     clear Fc0 Fc1 Fc2 Fc3 Fc4 Fc5 Fc6 Fc7 Fc8 Fc9 Fc10 Fc11 Fc12 Flt;refine (p.out (by first | rfl | trivial) _ B).mono ?_;rintro e f ⟨rfl, a⟩;have E : k.heap.size ≤ f.heap.size := a.size;replace B := zAa B a;replace F := zAb a F;clear a;cases q4
     ·skip
      obtain ⟨Fc0, Fc1, Fc2, Fc3, Fc4, Fc5, Fc6, Fc7, Fc8, Fc9, Fc10, Fc11, Fc12⟩ := zAd F;have Flt := (ltH F);have c : Hid _ := B;clear B F;go_wp2;go_ret
      exact ⟨by simp, c.out⟩
     ·skip
      obtain ⟨Fc0, Fc1, Fc2, Fc3, Fc4, Fc5, Fc6, Fc7, Fc8, Fc9, Fc10, Fc11, Fc12⟩ := zAd F;have Flt := (ltH F);go_wp2_with fail
      clear Fc0 Fc1 Fc2 Fc3 Fc4 Fc5 Fc6 Fc7 Fc8 Fc9 Fc10 Fc11 Fc12 Flt;refine (v.out _ B).mono ?_;rintro e q ⟨rfl, a⟩;have A : f.heap.size ≤ q.heap.size := a.size;replace B := zAa B a;replace F := zAb a F;clear a;obtain ⟨Fc0, Fc1, Fc2, Fc3, Fc4, Fc5, Fc6, Fc7, Fc8, Fc9, Fc10, Fc11, Fc12⟩ := zAd F;have Flt := (ltH F);have c : Hid _ := B;clear B F;go_wp2;go_ret
      exact ⟨by simp, c.out⟩
 ·have G : (kc == 0) = false := by simp [d]
  have J : Hid (¬ kc = 0) := d;clear d;obtain ⟨Fc0, Fc1, Fc2, Fc3, Fc4, Fc5, Fc6, Fc7, Fc8, Fc9, Fc10, Fc11, Fc12⟩ := zAd F;have Flt := (ltH F);have c : Hid _ := B;clear B F;go_wp2;go_ret
  exact ⟨by simp [J.out], c.out⟩
def zFh : Code → List Code
 | .loop c => [c]
 | .seq a b => zFh a ++ zFh b
 | .block _ c => zFh c
 | .scope c => zFh c
 | .cond _ a b => zFh a ++ zFh b
 | _ => []
noncomputable def zGX (n : Nat) : Code := ((Tryz.f49.body.map zFh).getD []).getD n .skip
theorem zF1 {α : Type} {p : α → Bool} {xs : List α} (h : ∀ (j : Nat) v, xs[j]? = some v → p v = true) : xs.all p = true := List.all_eq_true.2 fun v hv => by
 obtain ⟨j, a⟩ := List.getElem?_of_mem hv;exact h j v a
structure UptoF (w : World) (x : zA2) (a1 b1 a2 a3 b3 a4 a5 : Option Addr) (c1 d1 c2 c3 d3 c4 c5 : Nat) (n : Nat) (p : Nat → Prop) (i : Value) (wr : World) : Prop where
 ex : ∃ k : Nat, k ≤ n ∧ i = .int .i64 k ∧ (∀ j, j < k → p j) ∧ Below w.heap.size w wr ∧ wr.heap[w.heap.size]? = some (.cells #[.int .i64 x.1.1, .int .i64 x.1.2.1, .int .i64 x.1.2.2.1, .int .i64 x.1.2.2.2, .slice a1 x.2.1.1.length c1, .slice b1 x.2.1.2.length d1, .slice a2 x.2.2.1.length c2, .slice a3 x.2.2.2.1.1.length c3, .int .i64 x.2.2.2.1.2.1, .bool x.2.2.2.1.2.2.1, .slice b3 x.2.2.2.1.2.2.2.length d3, .slice a4 x.2.2.2.2.1.length c4, .slice a5 x.2.2.2.2.2.length c5] 50 (0, 0))
theorem zOV {c : Int} (h0 : 0 ≤ c) (h4 : c ≤ 4) : IntKind.u64.wrap c = c := by
 rcases (by omega : c = 0 ∨ c = 1 ∨ c = 2 ∨ c = 3 ∨ c = 4) with rfl | rfl | rfl | rfl | rfl <;> rfl
end Go.Proofs.YtcocbafhcpdheaaGreatDoor
