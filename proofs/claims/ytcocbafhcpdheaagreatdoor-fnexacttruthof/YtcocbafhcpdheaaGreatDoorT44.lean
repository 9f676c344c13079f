import Derived.Test.YtcocbafhcpdheaaGreatDoorT00Box
import Derived.Test.YtcocbafhcpdheaaGreatDoorT43
namespace Go.Proofs.YtcocbafhcpdheaaGreatDoor
set_option maxHeartbeats 4000000
set_option maxRecDepth 20000
open Go.ChangeShapes Go.WideShapes Go.ChangeAt Go.RowKit
set_option linter.unusedVariables false
set_option linter.unusedSimpArgs false
theorem op_eq4 (a b c d e f g h : Int) (w : World) : (Op.equalIn 10000 121 (.agg #[.int .i64 a, .int .i64 b, .int .i64 c, .int .i64 d]) (.agg #[.int .i64 e, .int .i64 f, .int .i64 g, .int .i64 h])).run Tryz.prog w = .ok (a == e && b == f && c == g && d == h) w := by
 have u3 := Tryz.underlying2;have a3 := Tryz.isAgg2;have z3 := Tryz.sizeOf2;have k : Tryz.prog.stoodInHeld 121 = false := by kernel_rfl
 rw [show (10000 : Nat) = 9999 + 1 from rfl, Op.equalIn];simp only [Sem.run_bind, run_underlying Tryz.underlying121, Result.andThen_ok];go_simp
 by_cases j : a = e <;> by_cases l : b = f <;> by_cases i : c = g <;> by_cases m : d = h <;> simp [j, l, i, m]
theorem ev_ok (x : zBr) : ((zA8 x.1 0 3 && evC x) || evP x) = evB x := by
 unfold evB;cases a : zA8 x.1 0 3
 ·simp
 ·have : evP x = false := by
    unfold evP;have : ¬ x.1 = 5 := fun q => by rw [q] at a; revert a; decide
    simp [this]
  rw [this]; simp
theorem evByCore (x : zBr) (ea : Option Addr) (ec : Nat) (w : World) (h : zA4 zAG w ea x.2.2.2.2.1) (hl : x.2.2.2.2.1.length ≤ maxLen) :
    Calls Tryz.prog 192 #[.agg #[.int .i64 x.1, .int .i64 x.2.1.1, .int .i64 x.2.1.2.1, .int .i64 x.2.1.2.2.1, .int .i64 x.2.1.2.2.2, .int .i64 x.2.2.1, .int .i64 x.2.2.2.1, .slice ea x.2.2.2.2.1.length ec, .int .i64 x.2.2.2.2.2]] w fun e w' => e = .returned (.bool (zA8 x.1 0 3 && evC x)) ∧ Below w.heap.size w w' := by
 have s : Hid _ := fun (W : World) (k : Below w.heap.size w W) => (zB7 x.1 W).mono fun e w' ⟨q, r⟩ => ⟨q, zEO r⟩;have y : Hid _ := fun (W : World) (k : Below w.heap.size w W) => zEw x.2.1.1 x.2.1.2.1 x.2.1.2.2.1 x.2.1.2.2.2 W;have U : x.2.2.2.2.1.length ≤ 9223372036854775807 := hl;clear h hl;unfold evC;generalize zA8 x.1 0 3 = q1 at s ⊢;generalize zB2 x.2.1 = q2 at y ⊢;by_cases o : x.2.2.1 = 0
 ·have L : (x.2.2.1 == 0) = true := by simp [o]
  have Hha : Hid (x.2.2.1 = 0) := o;clear o;by_cases k : x.2.2.2.1 = 0
  ·have I : (x.2.2.2.1 == 0) = true := by simp [k]
   have Hhb : Hid (x.2.2.2.1 = 0) := k;clear k;by_cases p : x.2.2.2.2.1.length = 0
   ·have H : ((x.2.2.2.2.1.length : Int) == 0) = true := by simp [p]
    have Hhd : Hid (x.2.2.2.2.1 = []) := List.length_eq_zero_iff.1 p;clear p;have B := Below.refl w.heap.size w;go_enter Tryz.func192, Tryz.ntmps192;go_upto_region 1 with fail
    generalize g : w.alloc _ = u1w;have E := boxH g;have j := boxB g;have d := boxL g;clear g;replace B := zAa B j;clear j;have m := Nat.le_of_eq d;have n := Nat.le_of_eq d.symm;clear d;obtain ⟨Ec0, Ec1, Ec2, Ec3, Ec4, Ec5, Ec6, Ec7, Ec8⟩ := zAh E;have Elt := (ltH E);go_wp2_with fail
    clear Ec0 Ec1 Ec2 Ec3 Ec4 Ec5 Ec6 Ec7 Ec8 Elt;refine (s.out _ B).mono ?_;rintro e A ⟨rfl, a⟩;have M : u1w.heap.size ≤ A.heap.size := a.size;replace B := zAa B a;replace E := zAb a E;clear a;cases q1
    ·skip
     obtain ⟨Ec0, Ec1, Ec2, Ec3, Ec4, Ec5, Ec6, Ec7, Ec8⟩ := zAh E;have Elt := (ltH E);have b : Hid _ := B;clear B E;go_wp2;go_ret
     exact ⟨rfl, b.out⟩
    ·skip
     obtain ⟨Ec0, Ec1, Ec2, Ec3, Ec4, Ec5, Ec6, Ec7, Ec8⟩ := zAh E;have Elt := (ltH E);go_wp2_with fail
     clear Ec0 Ec1 Ec2 Ec3 Ec4 Ec5 Ec6 Ec7 Ec8 Elt;refine (y.out _ B).mono ?_;rintro e G ⟨rfl, a⟩;have S : A.heap.size ≤ G.heap.size := a.size;replace B := zAa B a;replace E := zAb a E;clear a;cases q2
     ·skip
      obtain ⟨Ec0, Ec1, Ec2, Ec3, Ec4, Ec5, Ec6, Ec7, Ec8⟩ := zAh E;have Elt := (ltH E);have b : Hid _ := B;clear B E;go_wp2;go_ret
      exact ⟨rfl, b.out⟩
     ·skip
      obtain ⟨Ec0, Ec1, Ec2, Ec3, Ec4, Ec5, Ec6, Ec7, Ec8⟩ := zAh E;have Elt := (ltH E);have b : Hid _ := B;clear B E;go_wp2;go_ret
      exact ⟨by simp [Hha.out, Hhb.out, Hhd.out], b.out⟩
   ·have H : ((x.2.2.2.2.1.length : Int) == 0) = false := by simp [p]
    have Hhd : Hid (¬ x.2.2.2.2.1 = []) := fun q => p (List.length_eq_zero_iff.2 q);clear p;have B := Below.refl w.heap.size w;go_enter Tryz.func192, Tryz.ntmps192;go_upto_region 1 with fail
    generalize i : w.alloc _ = u4w;have E := boxH i;have j := boxB i;have d := boxL i;clear i;replace B := zAa B j;clear j;have m := Nat.le_of_eq d;have n := Nat.le_of_eq d.symm;clear d;obtain ⟨Ec0, Ec1, Ec2, Ec3, Ec4, Ec5, Ec6, Ec7, Ec8⟩ := zAh E;have Elt := (ltH E);go_wp2_with fail
    clear Ec0 Ec1 Ec2 Ec3 Ec4 Ec5 Ec6 Ec7 Ec8 Elt;refine (s.out _ B).mono ?_;rintro e C ⟨rfl, a⟩;have R : u4w.heap.size ≤ C.heap.size := a.size;replace B := zAa B a;replace E := zAb a E;clear a;cases q1
    ·skip
     obtain ⟨Ec0, Ec1, Ec2, Ec3, Ec4, Ec5, Ec6, Ec7, Ec8⟩ := zAh E;have Elt := (ltH E);have b : Hid _ := B;clear B E;go_wp2;go_ret
     exact ⟨rfl, b.out⟩
    ·skip
     obtain ⟨Ec0, Ec1, Ec2, Ec3, Ec4, Ec5, Ec6, Ec7, Ec8⟩ := zAh E;have Elt := (ltH E);go_wp2_with fail
     clear Ec0 Ec1 Ec2 Ec3 Ec4 Ec5 Ec6 Ec7 Ec8 Elt;refine (y.out _ B).mono ?_;rintro e F ⟨rfl, a⟩;have T : C.heap.size ≤ F.heap.size := a.size;replace B := zAa B a;replace E := zAb a E;clear a;cases q2
     ·skip
      obtain ⟨Ec0, Ec1, Ec2, Ec3, Ec4, Ec5, Ec6, Ec7, Ec8⟩ := zAh E;have Elt := (ltH E);have b : Hid _ := B;clear B E;go_wp2;go_ret
      exact ⟨rfl, b.out⟩
     ·skip
      obtain ⟨Ec0, Ec1, Ec2, Ec3, Ec4, Ec5, Ec6, Ec7, Ec8⟩ := zAh E;have Elt := (ltH E);have b : Hid _ := B;clear B E;go_wp2;go_ret
      exact ⟨by simp [Hha.out, Hhb.out, Hhd.out], b.out⟩
  ·have I : (x.2.2.2.1 == 0) = false := by simp [k]
   have Hhb : Hid (¬ x.2.2.2.1 = 0) := k;clear k;have B := Below.refl w.heap.size w;go_enter Tryz.func192, Tryz.ntmps192;go_upto_region 1 with fail
   generalize f : w.alloc _ = u7w;have E := boxH f;have j := boxB f;have d := boxL f;clear f;replace B := zAa B j;clear j;have m := Nat.le_of_eq d;have n := Nat.le_of_eq d.symm;clear d;obtain ⟨Ec0, Ec1, Ec2, Ec3, Ec4, Ec5, Ec6, Ec7, Ec8⟩ := zAh E;have Elt := (ltH E);go_wp2_with fail
   clear Ec0 Ec1 Ec2 Ec3 Ec4 Ec5 Ec6 Ec7 Ec8 Elt;refine (s.out _ B).mono ?_;rintro e v ⟨rfl, a⟩;have N : u7w.heap.size ≤ v.heap.size := a.size;replace B := zAa B a;replace E := zAb a E;clear a;cases q1
   ·skip
    obtain ⟨Ec0, Ec1, Ec2, Ec3, Ec4, Ec5, Ec6, Ec7, Ec8⟩ := zAh E;have Elt := (ltH E);have b : Hid _ := B;clear B E;go_wp2;go_ret
    exact ⟨rfl, b.out⟩
   ·skip
    obtain ⟨Ec0, Ec1, Ec2, Ec3, Ec4, Ec5, Ec6, Ec7, Ec8⟩ := zAh E;have Elt := (ltH E);go_wp2_with fail
    clear Ec0 Ec1 Ec2 Ec3 Ec4 Ec5 Ec6 Ec7 Ec8 Elt;refine (y.out _ B).mono ?_;rintro e K ⟨rfl, a⟩;have O : v.heap.size ≤ K.heap.size := a.size;replace B := zAa B a;replace E := zAb a E;clear a;cases q2
    ·skip
     obtain ⟨Ec0, Ec1, Ec2, Ec3, Ec4, Ec5, Ec6, Ec7, Ec8⟩ := zAh E;have Elt := (ltH E);have b : Hid _ := B;clear B E;go_wp2;go_ret
     exact ⟨rfl, b.out⟩
    ·skip
     obtain ⟨Ec0, Ec1, Ec2, Ec3, Ec4, Ec5, Ec6, Ec7, Ec8⟩ := zAh E;have Elt := (ltH E);have b : Hid _ := B;clear B E;go_wp2;go_ret
     exact ⟨by simp [Hha.out, Hhb.out], b.out⟩
 ·have L : (x.2.2.1 == 0) = false := by simp [o]
  have Hha : Hid (¬ x.2.2.1 = 0) := o;clear o;have B := Below.refl w.heap.size w;go_enter Tryz.func192, Tryz.ntmps192;go_upto_region 1 with fail
  generalize c : w.alloc _ = u10w;have E := boxH c;have j := boxB c;have d := boxL c;clear c;replace B := zAa B j;clear j;have m := Nat.le_of_eq d;have n := Nat.le_of_eq d.symm;clear d;obtain ⟨Ec0, Ec1, Ec2, Ec3, Ec4, Ec5, Ec6, Ec7, Ec8⟩ := zAh E;have Elt := (ltH E);go_wp2_with fail
  clear Ec0 Ec1 Ec2 Ec3 Ec4 Ec5 Ec6 Ec7 Ec8 Elt;refine (s.out _ B).mono ?_;rintro e l ⟨rfl, a⟩;have J : u10w.heap.size ≤ l.heap.size := a.size;replace B := zAa B a;replace E := zAb a E;clear a;cases q1
  ·skip
   obtain ⟨Ec0, Ec1, Ec2, Ec3, Ec4, Ec5, Ec6, Ec7, Ec8⟩ := zAh E;have Elt := (ltH E);have b : Hid _ := B;clear B E;go_wp2;go_ret
   exact ⟨rfl, b.out⟩
  ·skip
   obtain ⟨Ec0, Ec1, Ec2, Ec3, Ec4, Ec5, Ec6, Ec7, Ec8⟩ := zAh E;have Elt := (ltH E);go_wp2_with fail
   clear Ec0 Ec1 Ec2 Ec3 Ec4 Ec5 Ec6 Ec7 Ec8 Elt;refine (y.out _ B).mono ?_;rintro e z ⟨rfl, a⟩;have D : l.heap.size ≤ z.heap.size := a.size;replace B := zAa B a;replace E := zAb a E;clear a;cases q2
   ·skip
    obtain ⟨Ec0, Ec1, Ec2, Ec3, Ec4, Ec5, Ec6, Ec7, Ec8⟩ := zAh E;have Elt := (ltH E);have b : Hid _ := B;clear B E;go_wp2;go_ret
    exact ⟨rfl, b.out⟩
   ·skip
    obtain ⟨Ec0, Ec1, Ec2, Ec3, Ec4, Ec5, Ec6, Ec7, Ec8⟩ := zAh E;have Elt := (ltH E);have b : Hid _ := B;clear B E;go_wp2;go_ret
    exact ⟨by simp [Hha.out], b.out⟩
theorem evByDma (x : zBr) (ea : Option Addr) (ec : Nat) (w : World) (h : zA4 zAG w ea x.2.2.2.2.1) (hl : x.2.2.2.2.1.length ≤ maxLen) :
    Calls Tryz.prog 193 #[.agg #[.int .i64 x.1, .int .i64 x.2.1.1, .int .i64 x.2.1.2.1, .int .i64 x.2.1.2.2.1, .int .i64 x.2.1.2.2.2, .int .i64 x.2.2.1, .int .i64 x.2.2.2.1, .slice ea x.2.2.2.2.1.length ec, .int .i64 x.2.2.2.2.2]] w fun e w' => e = .returned (.bool (evP x)) ∧ Below w.heap.size w w' := by
 have D : Hid _ := fun (W : World) (hb : Below w.heap.size w W) => (zCy x.2.2.1 W).mono fun e w' ⟨q, r⟩ => ⟨q, zEO r⟩;have F : Hid _ := fun (W : World) (hb : Below w.heap.size w W) => (zDn x.2.2.2.1 W).mono fun e w' ⟨q, r⟩ => ⟨q, zEO r⟩;have G : Hid _ := fun (W : World) (hb : Below w.heap.size w W) => zBK ea x.2.2.2.2.1 ec W (zBv (zAm h hb));clear h hl;unfold evP;generalize zA8 x.2.2.1 0 15 = q3 at D ⊢;generalize zA8 x.2.2.2.1 0 3 = q4 at F ⊢;generalize isL x.2.2.2.2.1 = q5 at G ⊢;by_cases n : x.1 = 5
 ·have A : (x.1 == 5) = true := by simp [n]
  have Hha : Hid (x.1 = 5) := n;clear n;by_cases o : x.2.1 = (0, 0, 0, 0)
  ·have y : ∀ V, (Op.equalIn 10000 121 (.agg #[.int .i64 x.2.1.1, .int .i64 x.2.1.2.1, .int .i64 x.2.1.2.2.1, .int .i64 x.2.1.2.2.2]) (.agg #[.int .i64 0, .int .i64 0, .int .i64 0, .int .i64 0])).run Tryz.prog V = .ok true V := fun V => by rw [op_eq4]; rw [o]; rfl
   have Hhk : Hid (x.2.1 = (0, 0, 0, 0)) := o;clear o;by_cases m : x.2.2.2.2.2 = 0
   ·have z : (x.2.2.2.2.2 == 0) = true := by simp [m]
    have Hht : Hid (x.2.2.2.2.2 = 0) := m;clear m;have B := Below.refl w.heap.size w;go_enter Tryz.func193, Tryz.ntmps193;go_upto_region 1 with fail
    generalize f : w.alloc _ = u1w;have E := boxH f;have i := boxB f;have a := boxL f;clear f;replace B := zAa B i;clear i;have k := Nat.le_of_eq a;have l := Nat.le_of_eq a.symm;clear a;obtain ⟨Ec0, Ec1, Ec2, Ec3, Ec4, Ec5, Ec6, Ec7, Ec8⟩ := zAh E;have Elt := (ltH E);go_wp2_with fail
    clear Ec0 Ec1 Ec2 Ec3 Ec4 Ec5 Ec6 Ec7 Ec8 Elt;refine (D.out _ B).mono ?_;rintro e s ⟨rfl, g⟩;have C : u1w.heap.size ≤ s.heap.size := g.size;replace B := zAa B g;replace E := zAb g E;clear g;cases q3
    ·skip
     obtain ⟨Ec0, Ec1, Ec2, Ec3, Ec4, Ec5, Ec6, Ec7, Ec8⟩ := zAh E;have Elt := (ltH E);have j : Hid _ := B;clear B E;go_wp2;go_ret
     exact ⟨by simp [Hha.out, Hhk.out, Hht.out], j.out⟩
    ·skip
     obtain ⟨Ec0, Ec1, Ec2, Ec3, Ec4, Ec5, Ec6, Ec7, Ec8⟩ := zAh E;have Elt := (ltH E);go_wp2_with fail
     clear Ec0 Ec1 Ec2 Ec3 Ec4 Ec5 Ec6 Ec7 Ec8 Elt;refine (F.out _ B).mono ?_;rintro e p ⟨rfl, g⟩;have I : s.heap.size ≤ p.heap.size := g.size;replace B := zAa B g;replace E := zAb g E;clear g;cases q4
     ·skip
      obtain ⟨Ec0, Ec1, Ec2, Ec3, Ec4, Ec5, Ec6, Ec7, Ec8⟩ := zAh E;have Elt := (ltH E);have j : Hid _ := B;clear B E;go_wp2;go_ret
      exact ⟨by simp [Hha.out, Hhk.out, Hht.out], j.out⟩
     ·skip
      obtain ⟨Ec0, Ec1, Ec2, Ec3, Ec4, Ec5, Ec6, Ec7, Ec8⟩ := zAh E;have Elt := (ltH E);go_wp2_with fail
      clear Ec0 Ec1 Ec2 Ec3 Ec4 Ec5 Ec6 Ec7 Ec8 Elt;refine (G.out _ B).mono ?_;rintro e v ⟨rfl, g⟩;have H : p.heap.size ≤ v.heap.size := g.size;replace B := zAa B g;replace E := zAb g E;clear g;obtain ⟨Ec0, Ec1, Ec2, Ec3, Ec4, Ec5, Ec6, Ec7, Ec8⟩ := zAh E;have Elt := (ltH E);have j : Hid _ := B;clear B E;go_wp2;go_ret
      exact ⟨by simp [Hha.out, Hhk.out, Hht.out], j.out⟩
   ·have z : (x.2.2.2.2.2 == 0) = false := by simp [m]
    have Hht : Hid (¬ x.2.2.2.2.2 = 0) := m;clear m;have B := Below.refl w.heap.size w;go_enter Tryz.func193, Tryz.ntmps193;go_upto_region 1 with fail
    generalize d : w.alloc _ = u5w;have E := boxH d;have i := boxB d;have a := boxL d;clear d;replace B := zAa B i;clear i;have k := Nat.le_of_eq a;have l := Nat.le_of_eq a.symm;clear a;obtain ⟨Ec0, Ec1, Ec2, Ec3, Ec4, Ec5, Ec6, Ec7, Ec8⟩ := zAh E;have Elt := (ltH E);have j : Hid _ := B;clear B E;go_wp2;go_ret
    exact ⟨by simp [Hha.out, Hhk.out, Hht.out], j.out⟩
  ·have y : ∀ V, (Op.equalIn 10000 121 (.agg #[.int .i64 x.2.1.1, .int .i64 x.2.1.2.1, .int .i64 x.2.1.2.2.1, .int .i64 x.2.1.2.2.2]) (.agg #[.int .i64 0, .int .i64 0, .int .i64 0, .int .i64 0])).run Tryz.prog V = .ok false V := fun V => by rw [op_eq4]; congr 1; refine Bool.eq_false_iff.2 fun q => o ?_; simp only [Bool.and_eq_true, beq_iff_eq] at q; exact Prod.ext q.1.1.1 (Prod.ext q.1.1.2 (Prod.ext q.1.2 q.2))
   have Hhk : Hid (¬ x.2.1 = (0, 0, 0, 0)) := o;clear o;have B := Below.refl w.heap.size w;go_enter Tryz.func193, Tryz.ntmps193;go_upto_region 1 with fail
   generalize c : w.alloc _ = u6w;have E := boxH c;have i := boxB c;have a := boxL c;clear c;replace B := zAa B i;clear i;have k := Nat.le_of_eq a;have l := Nat.le_of_eq a.symm;clear a;obtain ⟨Ec0, Ec1, Ec2, Ec3, Ec4, Ec5, Ec6, Ec7, Ec8⟩ := zAh E;have Elt := (ltH E);have j : Hid _ := B;clear B E;go_wp2;go_ret
   exact ⟨by simp [Hha.out, Hhk.out], j.out⟩
 ·have A : (x.1 == 5) = false := by simp [n]
  have Hha : Hid (¬ x.1 = 5) := n;clear n;have B := Below.refl w.heap.size w;go_enter Tryz.func193, Tryz.ntmps193;go_upto_region 1 with fail
  generalize b : w.alloc _ = u7w;have E := boxH b;have i := boxB b;have a := boxL b;clear b;replace B := zAa B i;clear i;have k := Nat.le_of_eq a;have l := Nat.le_of_eq a.symm;clear a;obtain ⟨Ec0, Ec1, Ec2, Ec3, Ec4, Ec5, Ec6, Ec7, Ec8⟩ := zAh E;have Elt := (ltH E);have j : Hid _ := B;clear B E;go_wp2;go_ret
  exact ⟨by simp [Hha.out], j.out⟩
theorem evOk (x : zBr) (ea : Option Addr) (ec : Nat) (w : World) (h : zA4 zAG w ea x.2.2.2.2.1) (hl : x.2.2.2.2.1.length ≤ maxLen) :
    Calls Tryz.prog 131 #[.agg #[.int .i64 x.1, .int .i64 x.2.1.1, .int .i64 x.2.1.2.1, .int .i64 x.2.1.2.2.1, .int .i64 x.2.1.2.2.2, .int .i64 x.2.2.1, .int .i64 x.2.2.2.1, .slice ea x.2.2.2.2.1.length ec, .int .i64 x.2.2.2.2.2]] w fun e w' => e = .returned (.bool (evB x)) ∧ Below w.heap.size w w' := by
 have j : Hid _ := fun (W : World) (hb : Below w.heap.size w W) => evByCore x ea ec W (zAm h hb) hl;have k : Hid _ := fun (W : World) (hb : Below w.heap.size w W) => evByDma x ea ec W (zAm h hb) hl;rw [← ev_ok];clear h hl;generalize (zA8 x.1 0 3 && evC x) = q1 at j ⊢;generalize evP x = q2 at k ⊢;have B := Below.refl w.heap.size w;go_enter Tryz.func131, Tryz.ntmps131;go_upto_region 1 with fail
 generalize a : w.alloc _ = u1w;have E := boxH a;have l := boxB a;have d := boxL a;clear a;replace B := zAa B l;clear l;have n := Nat.le_of_eq d;have o := Nat.le_of_eq d.symm;clear d;obtain ⟨Ec0, Ec1, Ec2, Ec3, Ec4, Ec5, Ec6, Ec7, Ec8⟩ := zAh E;have Elt := (ltH E);go_wp2_with fail
 clear Ec0 Ec1 Ec2 Ec3 Ec4 Ec5 Ec6 Ec7 Ec8 Elt;refine (j.out _ B).mono ?_;rintro e c ⟨rfl, b⟩;have i : u1w.heap.size ≤ c.heap.size := b.size;replace B := zAa B b;replace E := zAb b E;clear b;cases q1
 ·skip
  obtain ⟨Ec0, Ec1, Ec2, Ec3, Ec4, Ec5, Ec6, Ec7, Ec8⟩ := zAh E;have Elt := (ltH E);go_wp2_with fail
  clear Ec0 Ec1 Ec2 Ec3 Ec4 Ec5 Ec6 Ec7 Ec8 Elt;refine (k.out _ B).mono ?_;rintro e f ⟨rfl, b⟩;have m : c.heap.size ≤ f.heap.size := b.size;replace B := zAa B b;replace E := zAb b E;clear b;obtain ⟨Ec0, Ec1, Ec2, Ec3, Ec4, Ec5, Ec6, Ec7, Ec8⟩ := zAh E;have Elt := (ltH E);have g : Hid _ := B;clear B E;go_wp2;go_ret
  exact ⟨by simp, g.out⟩
 ·skip
  obtain ⟨Ec0, Ec1, Ec2, Ec3, Ec4, Ec5, Ec6, Ec7, Ec8⟩ := zAh E;have Elt := (ltH E);have g : Hid _ := B;clear B E;go_wp2;go_ret
  exact ⟨by simp, g.out⟩
theorem zI9 (x : zA2) (a1 : Option Addr) (c1 : Nat) (b1 : Option Addr) (d1 : Nat) (a2 : Option Addr) (c2 : Nat) (a3 : Option Addr) (c3 : Nat) (b3 : Option Addr) (d3 : Nat) (a4 : Option Addr) (c4 : Nat) (a5 : Option Addr) (c5 : Nat) (w : World) (R : FabRd w x a1 c1 b1 d1 a2 c2 a3 c3 b3 d3 a4 c4 a5 c5) :
    Calls Tryz.prog 75 #[.agg #[.int .i64 x.1.1, .int .i64 x.1.2.1, .int .i64 x.1.2.2.1, .int .i64 x.1.2.2.2, .slice a1 x.2.1.1.length c1, .slice b1 x.2.1.2.length d1, .slice a2 x.2.2.1.length c2, .slice a3 x.2.2.2.1.1.length c3, .int .i64 x.2.2.2.1.2.1, .bool x.2.2.2.1.2.2.1, .slice b3 x.2.2.2.1.2.2.2.length d3, .slice a4 x.2.2.2.2.1.length c4, .slice a5 x.2.2.2.2.2.length c5]] w fun e w' => e = .returned (.bool (decide (x.2.2.2.2.2.length ≤ 200) && x.2.2.2.2.2.all evB)) ∧ Below w.heap.size w w' := by
 have n : Hid _ := fun (W : World) (hb : Below w.heap.size w W) => zKU a5 x.2.2.2.2.2 c5 W (zAm R.evs hb) R.evsl (fun u cs V hu hv hr => by
  obtain ⟨r, v, rfl, o, s, q⟩ := zE4 hr
  exact evOk u r v V q (Nat.le_trans o s))
 have l4 : x.2.2.2.2.2.length ≤ 9223372036854775807 := R.evsl;generalize x.2.2.2.2.2.all evB = o at n ⊢;clear R;by_cases d : x.2.2.2.2.2.length ≤ 200
 ·have p : (x.2.2.2.2.2.length : Int) ≤ 200 := by omega
  have k : Hid (x.2.2.2.2.2.length ≤ 200) := d;clear d;have B := Below.refl w.heap.size w;go_enter Tryz.func75, Tryz.ntmps75;go_upto_region 1 with fail
  generalize a : w.alloc _ = u1w;have F := boxH a;have c := boxB a;have b := boxL a;clear a;replace B := zAa B c;clear c;have i := Nat.le_of_eq b;have g := Nat.le_of_eq b.symm;clear b;obtain ⟨Fc0, Fc1, Fc2, Fc3, Fc4, Fc5, Fc6, Fc7, Fc8, Fc9, Fc10, Fc11, Fc12⟩ := zAd F;have Flt := (ltH F);go_wp2_with fail
  clear Fc0 Fc1 Fc2 Fc3 Fc4 Fc5 Fc6 Fc7 Fc8 Fc9 Fc10 Fc11 Fc12 Flt;refine (n.out _ B).mono ?_;rintro e j ⟨rfl, f⟩;have m : u1w.heap.size ≤ j.heap.size := f.size;replace B := zAa B f;replace F := zAb f F;clear f;obtain ⟨Fc0, Fc1, Fc2, Fc3, Fc4, Fc5, Fc6, Fc7, Fc8, Fc9, Fc10, Fc11, Fc12⟩ := zAd F;have Flt := (ltH F);have l : Hid _ := B;clear B F;go_wp2;go_ret
  exact ⟨by simp [k.out], l.out⟩
 ·have p : ¬ ((x.2.2.2.2.2.length : Int) ≤ 200) := by omega
  have k : Hid (¬ x.2.2.2.2.2.length ≤ 200) := d;clear d;have B := Below.refl w.heap.size w;go_enter Tryz.func75, Tryz.ntmps75;go_upto_region 1 with fail
  generalize a : w.alloc _ = u1w;have F := boxH a;have c := boxB a;have b := boxL a;clear a;replace B := zAa B c;clear c;have i := Nat.le_of_eq b;have g := Nat.le_of_eq b.symm;clear b;obtain ⟨Fc0, Fc1, Fc2, Fc3, Fc4, Fc5, Fc6, Fc7, Fc8, Fc9, Fc10, Fc11, Fc12⟩ := zAd F;have Flt := (ltH F);have l : Hid _ := B;clear B F;go_wp2;go_ret
  exact ⟨by simp [k.out], l.out⟩
theorem zGi (x : zA2) (a1 : Option Addr) (c1 : Nat) (b1 : Option Addr) (d1 : Nat) (a2 : Option Addr) (c2 : Nat) (a3 : Option Addr) (c3 : Nat) (b3 : Option Addr) (d3 : Nat) (a4 : Option Addr) (c4 : Nat) (a5 : Option Addr) (c5 : Nat) (w : World) (R : FabRd w x a1 c1 b1 d1 a2 c2 a3 c3 b3 d3 a4 c4 a5 c5) (hh : Hold w) :
    Calls Tryz.prog 35 #[.agg #[.int .i64 x.1.1, .int .i64 x.1.2.1, .int .i64 x.1.2.2.1, .int .i64 x.1.2.2.2, .slice a1 x.2.1.1.length c1, .slice b1 x.2.1.2.length d1, .slice a2 x.2.2.1.length c2, .slice a3 x.2.2.2.1.1.length c3, .int .i64 x.2.2.2.1.2.1, .bool x.2.2.2.1.2.2.1, .slice b3 x.2.2.2.1.2.2.2.length d3, .slice a4 x.2.2.2.2.1.length c4, .slice a5 x.2.2.2.2.2.length c5]] w fun e w' => e = .returned (.bool (zFj x)) ∧ Below w.heap.size w w' := by
 have s : Hid _ := fun (W : World) (hb : Below w.heap.size w W) => zDc x.1.1 x.1.2.1 x.1.2.2.1 x.1.2.2.2 W;have m : Hid (zBe x.1.1 x.1.2.1 x.1.2.2.1 x.1.2.2.2 = 0 → ∀ W, Below w.heap.size w W → Calls Tryz.prog 71 #[.agg #[.int .i64 x.1.1, .int .i64 x.1.2.1, .int .i64 x.1.2.2.1, .int .i64 x.1.2.2.2, .slice a1 x.2.1.1.length c1, .slice b1 x.2.1.2.length d1, .slice a2 x.2.2.1.length c2, .slice a3 x.2.2.2.1.1.length c3, .int .i64 x.2.2.2.1.2.1, .bool x.2.2.2.1.2.2.1, .slice b3 x.2.2.2.1.2.2.2.length d3, .slice a4 x.2.2.2.2.1.length c4, .slice a5 x.2.2.2.2.2.length c5]] W fun e w' => e = .returned (.bool (zDl x)) ∧ Below W.heap.size W w') := fun hc W hb => zJH x a1 c1 b1 d1 a2 c2 a3 c3 b3 d3 a4 c4 a5 c5 W hc (zBP R hb);have o : Hid (zBe x.1.1 x.1.2.1 x.1.2.2.1 x.1.2.2.2 = 0 → ∀ W, Below w.heap.size w W → Calls Tryz.prog 72 #[.agg #[.int .i64 x.1.1, .int .i64 x.1.2.1, .int .i64 x.1.2.2.1, .int .i64 x.1.2.2.2, .slice a1 x.2.1.1.length c1, .slice b1 x.2.1.2.length d1, .slice a2 x.2.2.1.length c2, .slice a3 x.2.2.2.1.1.length c3, .int .i64 x.2.2.2.1.2.1, .bool x.2.2.2.1.2.2.1, .slice b3 x.2.2.2.1.2.2.2.length d3, .slice a4 x.2.2.2.2.1.length c4, .slice a5 x.2.2.2.2.2.length c5]] W fun e w' => e = .returned (.bool (zDm x)) ∧ Below W.heap.size W w') := fun hc W hb => zJG x a1 c1 b1 d1 a2 c2 a3 c3 b3 d3 a4 c4 a5 c5 W hc (zBP R hb) (hh.goes hb);have n : Hid (zBe x.1.1 x.1.2.1 x.1.2.2.1 x.1.2.2.2 = 0 → ∀ W, Below w.heap.size w W → Calls Tryz.prog 73 #[.agg #[.int .i64 x.1.1, .int .i64 x.1.2.1, .int .i64 x.1.2.2.1, .int .i64 x.1.2.2.2, .slice a1 x.2.1.1.length c1, .slice b1 x.2.1.2.length d1, .slice a2 x.2.2.1.length c2, .slice a3 x.2.2.2.1.1.length c3, .int .i64 x.2.2.2.1.2.1, .bool x.2.2.2.1.2.2.1, .slice b3 x.2.2.2.1.2.2.2.length d3, .slice a4 x.2.2.2.2.1.length c4, .slice a5 x.2.2.2.2.2.length c5]] W fun e w' => e = .returned (.bool (zGT x)) ∧ Below W.heap.size W w') := fun hc W hb => zMS x a1 c1 b1 d1 a2 c2 a3 c3 b3 d3 a4 c4 a5 c5 W hc (zBP R hb) (hh.goes hb);have p : Hid (zBe x.1.1 x.1.2.1 x.1.2.2.1 x.1.2.2.2 = 0 → ∀ W, Below w.heap.size w W → Calls Tryz.prog 74 #[.agg #[.int .i64 x.1.1, .int .i64 x.1.2.1, .int .i64 x.1.2.2.1, .int .i64 x.1.2.2.2, .slice a1 x.2.1.1.length c1, .slice b1 x.2.1.2.length d1, .slice a2 x.2.2.1.length c2, .slice a3 x.2.2.2.1.1.length c3, .int .i64 x.2.2.2.1.2.1, .bool x.2.2.2.1.2.2.1, .slice b3 x.2.2.2.1.2.2.2.length d3, .slice a4 x.2.2.2.2.1.length c4, .slice a5 x.2.2.2.2.2.length c5]] W fun e w' => e = .returned (.bool (zGP x)) ∧ Below W.heap.size W w') := fun hc W hb => zMO x a1 c1 b1 d1 a2 c2 a3 c3 b3 d3 a4 c4 a5 c5 W hc (zBP R hb);have v : Hid _ := fun (W : World) (hb : Below w.heap.size w W) => zI9 x a1 c1 b1 d1 a2 c2 a3 c3 b3 d3 a4 c4 a5 c5 W (zBP R hb);unfold zFj;clear R hh;generalize zBe x.1.1 x.1.2.1 x.1.2.2.1 x.1.2.2.2 = kc at s m o n p ⊢;generalize zDl x = q1 at m ⊢;generalize zDm x = q2 at o ⊢;generalize zGT x = q3 at n ⊢;generalize zGP x = q4 at p ⊢;generalize (decide (x.2.2.2.2.2.length ≤ 200) && x.2.2.2.2.2.all evB) = q5 at v ⊢;have B := Below.refl w.heap.size w;go_enter Tryz.func35, Tryz.ntmps35;go_upto_region 1 with fail
 generalize b : w.alloc _ = u1w;have F := boxH b;have y := boxB b;have l := boxL b;clear b;replace B := zAa B y;clear y;have I := Nat.le_of_eq l;have H := Nat.le_of_eq l.symm;clear l;obtain ⟨Fc0, Fc1, Fc2, Fc3, Fc4, Fc5, Fc6, Fc7, Fc8, Fc9, Fc10, Fc11, Fc12⟩ := zAd F;have Flt := (ltH F);go_wp2_with fail
 clear Fc0 Fc1 Fc2 Fc3 Fc4 Fc5 Fc6 Fc7 Fc8 Fc9 Fc10 Fc11 Fc12 Flt;refine (s.out _ B).mono ?_;rintro e j ⟨rfl, a⟩;have r : u1w.heap.size ≤ j.heap.size := a.size;replace B := zAa B a;replace F := zAb a F;clear a;by_cases d : kc = 0
 ·have G : (kc == 0) = true := by simp [d]
  subst d;have d : (0 : Int) = 0 := rfl;clear d;obtain ⟨Fc0, Fc1, Fc2, Fc3, Fc4, Fc5, Fc6, Fc7, Fc8, Fc9, Fc10, Fc11, Fc12⟩ := zAd F;have Flt := (ltH F);go_wp2_with fail
  clear Fc0 Fc1 Fc2 Fc3 Fc4 Fc5 Fc6 Fc7 Fc8 Fc9 Fc10 Fc11 Fc12 Flt;refine (m.out (by first | rfl | trivial) _ B).mono ?_;rintro e i ⟨rfl, a⟩;have D : j.heap.size ≤ i.heap.size := a.size;replace B := zAa B a;replace F := zAb a F;clear a;cases q1
  ·skip
   obtain ⟨Fc0, Fc1, Fc2, Fc3, Fc4, Fc5, Fc6, Fc7, Fc8, Fc9, Fc10, Fc11, Fc12⟩ := zAd F;have Flt := (ltH F);have c : Hid _ := B;clear B F;go_wp2;go_ret
   exact ⟨by simp, c.out⟩
  ·skip
   obtain ⟨Fc0, Fc1, Fc2, Fc3, Fc4, Fc5, Fc6, Fc7, Fc8, Fc9, Fc10, Fc11, Fc12⟩ := zAd F;have Flt := (ltH F);go_wp2_with fail
   clear Fc0 Fc1 Fc2 Fc3 Fc4 Fc5 Fc6 Fc7 Fc8 Fc9 Fc10 Fc11 Fc12 Flt;refine (o.out (by first | rfl | trivial) _ B).mono ?_;rintro e g ⟨rfl, a⟩;have C : i.heap.size ≤ g.heap.size := a.size;replace B := zAa B a;replace F := zAb a F;clear a;cases q2
   ·skip
    obtain ⟨Fc0, Fc1, Fc2, Fc3, Fc4, Fc5, Fc6, Fc7, Fc8, Fc9, Fc10, Fc11, Fc12⟩ := zAd F;have Flt := (ltH F);have c : Hid _ := B;clear B F;go_wp2;go_ret
    exact ⟨by simp, c.out⟩
   ·skip
    obtain ⟨Fc0, Fc1, Fc2, Fc3, Fc4, Fc5, Fc6, Fc7, Fc8, Fc9, Fc10, Fc11, Fc12⟩ := zAd F;have Flt := (ltH F);go_wp2_with fail
    clear Fc0 Fc1 Fc2 Fc3 Fc4 Fc5 Fc6 Fc7 Fc8 Fc9 Fc10 Fc11 Fc12 Flt;refine (n.out (by first | rfl | trivial) _ B).mono ?_;rintro e k ⟨rfl, a⟩;have z : g.heap.size ≤ k.heap.size := a.size;replace B := zAa B a;replace F := zAb a F;clear a;cases q3
    ·skip
     obtain ⟨Fc0, Fc1, Fc2, Fc3, Fc4, Fc5, Fc6, Fc7, Fc8, Fc9, Fc10, Fc11, Fc12⟩ := zAd F;have Flt := (ltH F);have c : Hid _ := B;clear B F;go_wp2;go_ret
     exact ⟨by simp, c.out⟩
    ·skip
     obtain ⟨Fc0, Fc1, Fc2, Fc3, Fc4, Fc5, Fc6, Fc7, Fc8, Fc9, Fc10, Fc11, Fc12⟩ := zAd F;have Flt := (ltH F);go_wp2_with fail
     clear Fc0 Fc1 Fc2 Fc3 Fc4 Fc5 Fc6 Fc7 Fc8 Fc9 Fc10 Fc11 Fc12 Flt;refine (p.out (by first | rfl | trivial) _ B).mono ?_;rintro e f ⟨rfl, a⟩;have E : k.heap.size ≤ f.heap.size := a.size;replace B := zAa B a;replace F := zAb a F;clear a;cases q4
     ·skip
      obtain ⟨Fc0, Fc1, Fc2, Fc3, Fc4, Fc5, Fc6, Fc7, Fc8, Fc9, Fc10, Fc11, Fc12⟩ := zAd F;have Flt := (ltH F);have c : Hid _ := B;clear B F;go_wp2;go_ret
      exact ⟨by simp, c.out⟩
     ·skip
      obtain ⟨Fc0, Fc1, Fc2, Fc3, Fc4, Fc5, Fc6, Fc7, Fc8, Fc9, Fc10, Fc11, Fc12⟩ := zAd F;have Flt := (ltH F);go_wp2_with fail
      clear Fc0 Fc1 Fc2 Fc3 Fc4 Fc5 Fc6 Fc7 Fc8 Fc9 Fc10 Fc11 Fc12 Flt;refine (v.out _ B).mono ?_;rintro e q ⟨rfl, a⟩;have A : f.heap.size ≤ q.heap.size := a.size;replace B := zAa B a;replace F := zAb a F;clear a;obtain ⟨Fc0, Fc1, Fc2, Fc3, Fc4, Fc5, Fc6, Fc7, Fc8, Fc9, Fc10, Fc11, Fc12⟩ := zAd F;have Flt := (ltH F);have c : Hid _ := B;clear B F;go_wp2;go_ret
      exact ⟨by simp, c.out⟩
 ·have G : (kc == 0) = false := by simp [d]
  have J : Hid (¬ kc = 0) := d;clear d;obtain ⟨Fc0, Fc1, Fc2, Fc3, Fc4, Fc5, Fc6, Fc7, Fc8, Fc9, Fc10, Fc11, Fc12⟩ := zAd F;have Flt := (ltH F);have c : Hid _ := B;clear B F;go_wp2;go_ret
  exact ⟨by simp [J.out], c.out⟩
def zFh : Code → List Code
 | .loop c => [c]
 | .seq a b => zFh a ++ zFh b
 | .block _ c => zFh c
 | .scope c => zFh c
 | .cond _ a b => zFh a ++ zFh b
 | _ => []
noncomputable def zGX (n : Nat) : Code := ((Tryz.f49.body.map zFh).getD []).getD n .skip
theorem zF1 {α : Type} {p : α → Bool} {xs : List α} (h : ∀ (j : Nat) v, xs[j]? = some v → p v = true) : xs.all p = true := List.all_eq_true.2 fun v hv => by
 obtain ⟨j, a⟩ := List.getElem?_of_mem hv;exact h j v a
structure UptoF (w : World) (x : zA2) (a1 b1 a2 a3 b3 a4 a5 : Option Addr) (c1 d1 c2 c3 d3 c4 c5 : Nat) (n : Nat) (p : Nat → Prop) (i : Value) (wr : World) : Prop where
 ex : ∃ k : Nat, k ≤ n ∧ i = .int .i64 k ∧ (∀ j, j < k → p j) ∧ Below w.heap.size w wr ∧ wr.heap[w.heap.size]? = some (.cells #[.int .i64 x.1.1, .int .i64 x.1.2.1, .int .i64 x.1.2.2.1, .int .i64 x.1.2.2.2, .slice a1 x.2.1.1.length c1, .slice b1 x.2.1.2.length d1, .slice a2 x.2.2.1.length c2, .slice a3 x.2.2.2.1.1.length c3, .int .i64 x.2.2.2.1.2.1, .bool x.2.2.2.1.2.2.1, .slice b3 x.2.2.2.1.2.2.2.length d3, .slice a4 x.2.2.2.2.1.length c4, .slice a5 x.2.2.2.2.2.length c5] 50 (0, 0))
theorem zOV {c : Int} (h0 : 0 ≤ c) (h4 : c ≤ 4) : IntKind.u64.wrap c = c := by
 rcases (by omega : c = 0 ∨ c = 1 ∨ c = 2 ∨ c = 3 ∨ c = 4) with rfl | rfl | rfl | rfl | rfl <;> rfl
end Go.Proofs.YtcocbafhcpdheaaGreatDoor
