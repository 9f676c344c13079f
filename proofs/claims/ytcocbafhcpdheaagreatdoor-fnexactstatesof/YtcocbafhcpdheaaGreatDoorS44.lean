import Derived.Test.YtcocbafhcpdheaaGreatDoorS00Box
import Derived.Test.YtcocbafhcpdheaaGreatDoorS43
namespace Go.Proofs.YtcocbafhcpdheaaGreatDoor
set_option maxHeartbeats 2000000
set_option maxRecDepth 20000
open Go.ChangeShapes Go.WideShapes Go.ChangeAt Go.RowKit
set_option linter.unusedVariables false
set_option linter.unusedSimpArgs false
theorem op_eq4 (a b c d e f g h : Int) (w : World) : (Op.equalIn 10000 121 (.agg #[.int .i64 a, .int .i64 b, .int .i64 c, .int .i64 d]) (.agg #[.int .i64 e, .int .i64 f, .int .i64 g, .int .i64 h])).run Tryz.prog w = .ok (a == e && b == f && c == g && d == h) w := by
 have u3 := Tryz.underlying2;have a3 := Tryz.isAgg2;have z3 := Tryz.sizeOf2;have i : Tryz.prog.stoodInHeld 121 = false := by kernel_rfl
 rw [show (10000 : Nat) = 9999 + 1 from rfl, Op.equalIn];simp only [Sem.run_bind, run_underlying Tryz.underlying121, Result.andThen_ok];go_simp
 by_cases m : a = e <;> by_cases k : b = f <;> by_cases l : c = g <;> by_cases j : d = h <;> simp [m, k, l, j]
theorem ev_ok (x : EventD) : ((betw x.1 0 3 && evC x) || evP x) = evB x := by
 unfold evB;cases a : betw x.1 0 3
 ·simp
 ·have : evP x = false := by
    unfold evP;have : ¬ x.1 = 5 := fun q => by rw [q] at a; revert a; decide
    simp [this]
  rw [this]; simp
theorem evByCore (x : EventD) (ea : Option Addr) (ec : Nat) (w : World) (h : SlRd intR w ea x.2.2.2.2.1) (hl : x.2.2.2.2.1.length ≤ maxLen) :
    Calls Tryz.prog 192 #[.agg #[.int .i64 x.1, .int .i64 x.2.1.1, .int .i64 x.2.1.2.1, .int .i64 x.2.1.2.2.1, .int .i64 x.2.1.2.2.2, .int .i64 x.2.2.1, .int .i64 x.2.2.2.1, .slice ea x.2.2.2.2.1.length ec, .int .i64 x.2.2.2.2.2]] w fun e w' => e = .returned (.bool (betw x.1 0 3 && evC x)) ∧ Below w.heap.size w w' := by
 have v : Hid _ := fun (W : World) (k : Below w.heap.size w W) => (coreOk_any x.1 W).mono fun e w' ⟨q, r⟩ => ⟨q, be_eq r⟩;have z : Hid _ := fun (W : World) (k : Below w.heap.size w W) => implOpOk_any x.2.1.1 x.2.1.2.1 x.2.1.2.2.1 x.2.1.2.2.2 W;have U : x.2.2.2.2.1.length ≤ 9223372036854775807 := hl;clear h hl;unfold evC;generalize betw x.1 0 3 = q1 at v ⊢;generalize opOkD x.2.1 = q2 at z ⊢;by_cases o : x.2.2.1 = 0
 ·have K : (x.2.2.1 == 0) = true := by simp [o]
  have Hha : Hid (x.2.2.1 = 0) := o;clear o;by_cases k : x.2.2.2.1 = 0
  ·have D : (x.2.2.2.1 == 0) = true := by simp [k]
   have Hhb : Hid (x.2.2.2.1 = 0) := k;clear k;by_cases p : x.2.2.2.2.1.length = 0
   ·have I : ((x.2.2.2.2.1.length : Int) == 0) = true := by simp [p]
    have Hhd : Hid (x.2.2.2.2.1 = []) := List.length_eq_zero_iff.1 p;clear p;have B := Below.refl w.heap.size w;go_enter Tryz.func192, Tryz.ntmps192;go_upto_region 1 with fail
    generalize i : w.alloc _ = u1w;have E := boxH i;have j := boxB i;have d := boxL i;clear i;replace B := below_step B j;clear j;have m := Nat.le_of_eq d;have n := Nat.le_of_eq d.symm;clear d;obtain ⟨Ec0, Ec1, Ec2, Ec3, Ec4, Ec5, Ec6, Ec7, Ec8⟩ := cells_core E;have Elt := (ltH E);go_wp2_with fail
    clear Ec0 Ec1 Ec2 Ec3 Ec4 Ec5 Ec6 Ec7 Ec8 Elt;refine (v.out _ B).mono ?_;rintro e y ⟨rfl, a⟩;have T : u1w.heap.size ≤ y.heap.size := a.size;replace B := below_step B a;replace E := row_keep a E;clear a;cases q1
    ·skip
     obtain ⟨Ec0, Ec1, Ec2, Ec3, Ec4, Ec5, Ec6, Ec7, Ec8⟩ := cells_core E;have Elt := (ltH E);have b : Hid _ := B;clear B E;go_wp2;go_ret
     exact ⟨rfl, b.out⟩
    ·skip
     obtain ⟨Ec0, Ec1, Ec2, Ec3, Ec4, Ec5, Ec6, Ec7, Ec8⟩ := cells_core E;have Elt := (ltH E);go_wp2_with fail
     clear Ec0 Ec1 Ec2 Ec3 Ec4 Ec5 Ec6 Ec7 Ec8 Elt;refine (z.out _ B).mono ?_;rintro e F ⟨rfl, a⟩;have M : y.heap.size ≤ F.heap.size := a.size;replace B := below_step B a;replace E := row_keep a E;clear a;cases q2
     ·skip
      obtain ⟨Ec0, Ec1, Ec2, Ec3, Ec4, Ec5, Ec6, Ec7, Ec8⟩ := cells_core E;have Elt := (ltH E);have b : Hid _ := B;clear B E;go_wp2;go_ret
      exact ⟨rfl, b.out⟩
     ·skip
      obtain ⟨Ec0, Ec1, Ec2, Ec3, Ec4, Ec5, Ec6, Ec7, Ec8⟩ := cells_core E;have Elt := (ltH E);have b : Hid _ := B;clear B E;go_wp2;go_ret
      exact ⟨by simp [Hha.out, Hhb.out, Hhd.out], b.out⟩
   ·have I : ((x.2.2.2.2.1.length : Int) == 0) = false := by simp [p]
    have Hhd : Hid (¬ x.2.2.2.2.1 = []) := fun q => p (List.length_eq_zero_iff.2 q);clear p;have B := Below.refl w.heap.size w;go_enter Tryz.func192, Tryz.ntmps192;go_upto_region 1 with fail
    generalize f : w.alloc _ = u4w;have E := boxH f;have j := boxB f;have d := boxL f;clear f;replace B := below_step B j;clear j;have m := Nat.le_of_eq d;have n := Nat.le_of_eq d.symm;clear d;obtain ⟨Ec0, Ec1, Ec2, Ec3, Ec4, Ec5, Ec6, Ec7, Ec8⟩ := cells_core E;have Elt := (ltH E);go_wp2_with fail
    clear Ec0 Ec1 Ec2 Ec3 Ec4 Ec5 Ec6 Ec7 Ec8 Elt;refine (v.out _ B).mono ?_;rintro e A ⟨rfl, a⟩;have R : u4w.heap.size ≤ A.heap.size := a.size;replace B := below_step B a;replace E := row_keep a E;clear a;cases q1
    ·skip
     obtain ⟨Ec0, Ec1, Ec2, Ec3, Ec4, Ec5, Ec6, Ec7, Ec8⟩ := cells_core E;have Elt := (ltH E);have b : Hid _ := B;clear B E;go_wp2;go_ret
     exact ⟨rfl, b.out⟩
    ·skip
     obtain ⟨Ec0, Ec1, Ec2, Ec3, Ec4, Ec5, Ec6, Ec7, Ec8⟩ := cells_core E;have Elt := (ltH E);go_wp2_with fail
     clear Ec0 Ec1 Ec2 Ec3 Ec4 Ec5 Ec6 Ec7 Ec8 Elt;refine (z.out _ B).mono ?_;rintro e L ⟨rfl, a⟩;have O : A.heap.size ≤ L.heap.size := a.size;replace B := below_step B a;replace E := row_keep a E;clear a;cases q2
     ·skip
      obtain ⟨Ec0, Ec1, Ec2, Ec3, Ec4, Ec5, Ec6, Ec7, Ec8⟩ := cells_core E;have Elt := (ltH E);have b : Hid _ := B;clear B E;go_wp2;go_ret
      exact ⟨rfl, b.out⟩
     ·skip
      obtain ⟨Ec0, Ec1, Ec2, Ec3, Ec4, Ec5, Ec6, Ec7, Ec8⟩ := cells_core E;have Elt := (ltH E);have b : Hid _ := B;clear B E;go_wp2;go_ret
      exact ⟨by simp [Hha.out, Hhb.out, Hhd.out], b.out⟩
  ·have D : (x.2.2.2.1 == 0) = false := by simp [k]
   have Hhb : Hid (¬ x.2.2.2.1 = 0) := k;clear k;have B := Below.refl w.heap.size w;go_enter Tryz.func192, Tryz.ntmps192;go_upto_region 1 with fail
   generalize g : w.alloc _ = u7w;have E := boxH g;have j := boxB g;have d := boxL g;clear g;replace B := below_step B j;clear j;have m := Nat.le_of_eq d;have n := Nat.le_of_eq d.symm;clear d;obtain ⟨Ec0, Ec1, Ec2, Ec3, Ec4, Ec5, Ec6, Ec7, Ec8⟩ := cells_core E;have Elt := (ltH E);go_wp2_with fail
   clear Ec0 Ec1 Ec2 Ec3 Ec4 Ec5 Ec6 Ec7 Ec8 Elt;refine (v.out _ B).mono ?_;rintro e C ⟨rfl, a⟩;have N : u7w.heap.size ≤ C.heap.size := a.size;replace B := below_step B a;replace E := row_keep a E;clear a;cases q1
   ·skip
    obtain ⟨Ec0, Ec1, Ec2, Ec3, Ec4, Ec5, Ec6, Ec7, Ec8⟩ := cells_core E;have Elt := (ltH E);have b : Hid _ := B;clear B E;go_wp2;go_ret
    exact ⟨rfl, b.out⟩
   ·skip
    obtain ⟨Ec0, Ec1, Ec2, Ec3, Ec4, Ec5, Ec6, Ec7, Ec8⟩ := cells_core E;have Elt := (ltH E);go_wp2_with fail
    clear Ec0 Ec1 Ec2 Ec3 Ec4 Ec5 Ec6 Ec7 Ec8 Elt;refine (z.out _ B).mono ?_;rintro e J ⟨rfl, a⟩;have S : C.heap.size ≤ J.heap.size := a.size;replace B := below_step B a;replace E := row_keep a E;clear a;cases q2
    ·skip
     obtain ⟨Ec0, Ec1, Ec2, Ec3, Ec4, Ec5, Ec6, Ec7, Ec8⟩ := cells_core E;have Elt := (ltH E);have b : Hid _ := B;clear B E;go_wp2;go_ret
     exact ⟨rfl, b.out⟩
    ·skip
     obtain ⟨Ec0, Ec1, Ec2, Ec3, Ec4, Ec5, Ec6, Ec7, Ec8⟩ := cells_core E;have Elt := (ltH E);have b : Hid _ := B;clear B E;go_wp2;go_ret
     exact ⟨by simp [Hha.out, Hhb.out], b.out⟩
 ·have K : (x.2.2.1 == 0) = false := by simp [o]
  have Hha : Hid (¬ x.2.2.1 = 0) := o;clear o;have B := Below.refl w.heap.size w;go_enter Tryz.func192, Tryz.ntmps192;go_upto_region 1 with fail
  generalize c : w.alloc _ = u10w;have E := boxH c;have j := boxB c;have d := boxL c;clear c;replace B := below_step B j;clear j;have m := Nat.le_of_eq d;have n := Nat.le_of_eq d.symm;clear d;obtain ⟨Ec0, Ec1, Ec2, Ec3, Ec4, Ec5, Ec6, Ec7, Ec8⟩ := cells_core E;have Elt := (ltH E);go_wp2_with fail
  clear Ec0 Ec1 Ec2 Ec3 Ec4 Ec5 Ec6 Ec7 Ec8 Elt;refine (v.out _ B).mono ?_;rintro e l ⟨rfl, a⟩;have G : u10w.heap.size ≤ l.heap.size := a.size;replace B := below_step B a;replace E := row_keep a E;clear a;cases q1
  ·skip
   obtain ⟨Ec0, Ec1, Ec2, Ec3, Ec4, Ec5, Ec6, Ec7, Ec8⟩ := cells_core E;have Elt := (ltH E);have b : Hid _ := B;clear B E;go_wp2;go_ret
   exact ⟨rfl, b.out⟩
  ·skip
   obtain ⟨Ec0, Ec1, Ec2, Ec3, Ec4, Ec5, Ec6, Ec7, Ec8⟩ := cells_core E;have Elt := (ltH E);go_wp2_with fail
   clear Ec0 Ec1 Ec2 Ec3 Ec4 Ec5 Ec6 Ec7 Ec8 Elt;refine (z.out _ B).mono ?_;rintro e s ⟨rfl, a⟩;have H : l.heap.size ≤ s.heap.size := a.size;replace B := below_step B a;replace E := row_keep a E;clear a;cases q2
   ·skip
    obtain ⟨Ec0, Ec1, Ec2, Ec3, Ec4, Ec5, Ec6, Ec7, Ec8⟩ := cells_core E;have Elt := (ltH E);have b : Hid _ := B;clear B E;go_wp2;go_ret
    exact ⟨rfl, b.out⟩
   ·skip
    obtain ⟨Ec0, Ec1, Ec2, Ec3, Ec4, Ec5, Ec6, Ec7, Ec8⟩ := cells_core E;have Elt := (ltH E);have b : Hid _ := B;clear B E;go_wp2;go_ret
    exact ⟨by simp [Hha.out], b.out⟩
theorem evByDma (x : EventD) (ea : Option Addr) (ec : Nat) (w : World) (h : SlRd intR w ea x.2.2.2.2.1) (hl : x.2.2.2.2.1.length ≤ maxLen) :
    Calls Tryz.prog 193 #[.agg #[.int .i64 x.1, .int .i64 x.2.1.1, .int .i64 x.2.1.2.1, .int .i64 x.2.1.2.2.1, .int .i64 x.2.1.2.2.2, .int .i64 x.2.2.1, .int .i64 x.2.2.2.1, .slice ea x.2.2.2.2.1.length ec, .int .i64 x.2.2.2.2.2]] w fun e w' => e = .returned (.bool (evP x)) ∧ Below w.heap.size w w' := by
 have H : Hid _ := fun (W : World) (hb : Below w.heap.size w W) => (lineNo_any x.2.2.1 W).mono fun e w' ⟨q, r⟩ => ⟨q, be_eq r⟩;have C : Hid _ := fun (W : World) (hb : Below w.heap.size w W) => (maskOk_any x.2.2.2.1 W).mono fun e w' ⟨q, r⟩ => ⟨q, be_eq r⟩;have F : Hid _ := fun (W : World) (hb : Below w.heap.size w W) => implLineOk_any ea x.2.2.2.2.1 ec W (reads_of (slrd_next h hb));clear h hl;unfold evP;generalize betw x.2.2.1 0 15 = q3 at H ⊢;generalize betw x.2.2.2.1 0 3 = q4 at C ⊢;generalize isL x.2.2.2.2.1 = q5 at F ⊢;by_cases n : x.1 = 5
 ·have A : (x.1 == 5) = true := by simp [n]
  have Hha : Hid (x.1 = 5) := n;clear n;by_cases o : x.2.1 = (0, 0, 0, 0)
  ·have y : ∀ V, (Op.equalIn 10000 121 (.agg #[.int .i64 x.2.1.1, .int .i64 x.2.1.2.1, .int .i64 x.2.1.2.2.1, .int .i64 x.2.1.2.2.2]) (.agg #[.int .i64 0, .int .i64 0, .int .i64 0, .int .i64 0])).run Tryz.prog V = .ok true V := fun V => by rw [op_eq4]; rw [o]; rfl
   have Hhk : Hid (x.2.1 = (0, 0, 0, 0)) := o;clear o;by_cases m : x.2.2.2.2.2 = 0
   ·have v : (x.2.2.2.2.2 == 0) = true := by simp [m]
    have Hht : Hid (x.2.2.2.2.2 = 0) := m;clear m;have B := Below.refl w.heap.size w;go_enter Tryz.func193, Tryz.ntmps193;go_upto_region 1 with fail
    generalize g : w.alloc _ = u1w;have E := boxH g;have j := boxB g;have a := boxL g;clear g;replace B := below_step B j;clear j;have k := Nat.le_of_eq a;have l := Nat.le_of_eq a.symm;clear a;obtain ⟨Ec0, Ec1, Ec2, Ec3, Ec4, Ec5, Ec6, Ec7, Ec8⟩ := cells_core E;have Elt := (ltH E);go_wp2_with fail
    clear Ec0 Ec1 Ec2 Ec3 Ec4 Ec5 Ec6 Ec7 Ec8 Elt;refine (H.out _ B).mono ?_;rintro e s ⟨rfl, f⟩;have I : u1w.heap.size ≤ s.heap.size := f.size;replace B := below_step B f;replace E := row_keep f E;clear f;cases q3
    ·skip
     obtain ⟨Ec0, Ec1, Ec2, Ec3, Ec4, Ec5, Ec6, Ec7, Ec8⟩ := cells_core E;have Elt := (ltH E);have i : Hid _ := B;clear B E;go_wp2;go_ret
     exact ⟨by simp [Hha.out, Hhk.out, Hht.out], i.out⟩
    ·skip
     obtain ⟨Ec0, Ec1, Ec2, Ec3, Ec4, Ec5, Ec6, Ec7, Ec8⟩ := cells_core E;have Elt := (ltH E);go_wp2_with fail
     clear Ec0 Ec1 Ec2 Ec3 Ec4 Ec5 Ec6 Ec7 Ec8 Elt;refine (C.out _ B).mono ?_;rintro e p ⟨rfl, f⟩;have D : s.heap.size ≤ p.heap.size := f.size;replace B := below_step B f;replace E := row_keep f E;clear f;cases q4
     ·skip
      obtain ⟨Ec0, Ec1, Ec2, Ec3, Ec4, Ec5, Ec6, Ec7, Ec8⟩ := cells_core E;have Elt := (ltH E);have i : Hid _ := B;clear B E;go_wp2;go_ret
      exact ⟨by simp [Hha.out, Hhk.out, Hht.out], i.out⟩
     ·skip
      obtain ⟨Ec0, Ec1, Ec2, Ec3, Ec4, Ec5, Ec6, Ec7, Ec8⟩ := cells_core E;have Elt := (ltH E);go_wp2_with fail
      clear Ec0 Ec1 Ec2 Ec3 Ec4 Ec5 Ec6 Ec7 Ec8 Elt;refine (F.out _ B).mono ?_;rintro e z ⟨rfl, f⟩;have G : p.heap.size ≤ z.heap.size := f.size;replace B := below_step B f;replace E := row_keep f E;clear f;obtain ⟨Ec0, Ec1, Ec2, Ec3, Ec4, Ec5, Ec6, Ec7, Ec8⟩ := cells_core E;have Elt := (ltH E);have i : Hid _ := B;clear B E;go_wp2;go_ret
      exact ⟨by simp [Hha.out, Hhk.out, Hht.out], i.out⟩
   ·have v : (x.2.2.2.2.2 == 0) = false := by simp [m]
    have Hht : Hid (¬ x.2.2.2.2.2 = 0) := m;clear m;have B := Below.refl w.heap.size w;go_enter Tryz.func193, Tryz.ntmps193;go_upto_region 1 with fail
    generalize d : w.alloc _ = u5w;have E := boxH d;have j := boxB d;have a := boxL d;clear d;replace B := below_step B j;clear j;have k := Nat.le_of_eq a;have l := Nat.le_of_eq a.symm;clear a;obtain ⟨Ec0, Ec1, Ec2, Ec3, Ec4, Ec5, Ec6, Ec7, Ec8⟩ := cells_core E;have Elt := (ltH E);have i : Hid _ := B;clear B E;go_wp2;go_ret
    exact ⟨by simp [Hha.out, Hhk.out, Hht.out], i.out⟩
  ·have y : ∀ V, (Op.equalIn 10000 121 (.agg #[.int .i64 x.2.1.1, .int .i64 x.2.1.2.1, .int .i64 x.2.1.2.2.1, .int .i64 x.2.1.2.2.2]) (.agg #[.int .i64 0, .int .i64 0, .int .i64 0, .int .i64 0])).run Tryz.prog V = .ok false V := fun V => by rw [op_eq4]; congr 1; refine Bool.eq_false_iff.2 fun q => o ?_; simp only [Bool.and_eq_true, beq_iff_eq] at q; exact Prod.ext q.1.1.1 (Prod.ext q.1.1.2 (Prod.ext q.1.2 q.2))
   have Hhk : Hid (¬ x.2.1 = (0, 0, 0, 0)) := o;clear o;have B := Below.refl w.heap.size w;go_enter Tryz.func193, Tryz.ntmps193;go_upto_region 1 with fail
   generalize b : w.alloc _ = u6w;have E := boxH b;have j := boxB b;have a := boxL b;clear b;replace B := below_step B j;clear j;have k := Nat.le_of_eq a;have l := Nat.le_of_eq a.symm;clear a;obtain ⟨Ec0, Ec1, Ec2, Ec3, Ec4, Ec5, Ec6, Ec7, Ec8⟩ := cells_core E;have Elt := (ltH E);have i : Hid _ := B;clear B E;go_wp2;go_ret
   exact ⟨by simp [Hha.out, Hhk.out], i.out⟩
 ·have A : (x.1 == 5) = false := by simp [n]
  have Hha : Hid (¬ x.1 = 5) := n;clear n;have B := Below.refl w.heap.size w;go_enter Tryz.func193, Tryz.ntmps193;go_upto_region 1 with fail
  generalize c : w.alloc _ = u7w;have E := boxH c;have j := boxB c;have a := boxL c;clear c;replace B := below_step B j;clear j;have k := Nat.le_of_eq a;have l := Nat.le_of_eq a.symm;clear a;obtain ⟨Ec0, Ec1, Ec2, Ec3, Ec4, Ec5, Ec6, Ec7, Ec8⟩ := cells_core E;have Elt := (ltH E);have i : Hid _ := B;clear B E;go_wp2;go_ret
  exact ⟨by simp [Hha.out], i.out⟩
theorem evOk (x : EventD) (ea : Option Addr) (ec : Nat) (w : World) (h : SlRd intR w ea x.2.2.2.2.1) (hl : x.2.2.2.2.1.length ≤ maxLen) :
    Calls Tryz.prog 131 #[.agg #[.int .i64 x.1, .int .i64 x.2.1.1, .int .i64 x.2.1.2.1, .int .i64 x.2.1.2.2.1, .int .i64 x.2.1.2.2.2, .int .i64 x.2.2.1, .int .i64 x.2.2.2.1, .slice ea x.2.2.2.2.1.length ec, .int .i64 x.2.2.2.2.2]] w fun e w' => e = .returned (.bool (evB x)) ∧ Below w.heap.size w w' := by
 have j : Hid _ := fun (W : World) (hb : Below w.heap.size w W) => evByCore x ea ec W (slrd_next h hb) hl;have k : Hid _ := fun (W : World) (hb : Below w.heap.size w W) => evByDma x ea ec W (slrd_next h hb) hl;rw [← ev_ok];clear h hl;generalize (betw x.1 0 3 && evC x) = q1 at j ⊢;generalize evP x = q2 at k ⊢;have B := Below.refl w.heap.size w;go_enter Tryz.func131, Tryz.ntmps131;go_upto_region 1 with fail
 generalize a : w.alloc _ = u1w;have E := boxH a;have l := boxB a;have f := boxL a;clear a;replace B := below_step B l;clear l;have n := Nat.le_of_eq f;have o := Nat.le_of_eq f.symm;clear f;obtain ⟨Ec0, Ec1, Ec2, Ec3, Ec4, Ec5, Ec6, Ec7, Ec8⟩ := cells_core E;have Elt := (ltH E);go_wp2_with fail
 clear Ec0 Ec1 Ec2 Ec3 Ec4 Ec5 Ec6 Ec7 Ec8 Elt;refine (j.out _ B).mono ?_;rintro e c ⟨rfl, b⟩;have m : u1w.heap.size ≤ c.heap.size := b.size;replace B := below_step B b;replace E := row_keep b E;clear b;cases q1
 ·skip
  obtain ⟨Ec0, Ec1, Ec2, Ec3, Ec4, Ec5, Ec6, Ec7, Ec8⟩ := cells_core E;have Elt := (ltH E);go_wp2_with fail
  clear Ec0 Ec1 Ec2 Ec3 Ec4 Ec5 Ec6 Ec7 Ec8 Elt;refine (k.out _ B).mono ?_;rintro e d ⟨rfl, b⟩;have i : c.heap.size ≤ d.heap.size := b.size;replace B := below_step B b;replace E := row_keep b E;clear b;obtain ⟨Ec0, Ec1, Ec2, Ec3, Ec4, Ec5, Ec6, Ec7, Ec8⟩ := cells_core E;have Elt := (ltH E);have g : Hid _ := B;clear B E;go_wp2;go_ret
  exact ⟨by simp, g.out⟩
 ·skip
  obtain ⟨Ec0, Ec1, Ec2, Ec3, Ec4, Ec5, Ec6, Ec7, Ec8⟩ := cells_core E;have Elt := (ltH E);have g : Hid _ := B;clear B E;go_wp2;go_ret
  exact ⟨by simp, g.out⟩
theorem fabEvents_any (x : FabricD) (a1 : Option Addr) (c1 : Nat) (b1 : Option Addr) (d1 : Nat) (a2 : Option Addr) (c2 : Nat) (a3 : Option Addr) (c3 : Nat) (b3 : Option Addr) (d3 : Nat) (a4 : Option Addr) (c4 : Nat) (a5 : Option Addr) (c5 : Nat) (w : World) (R : FabRd w x a1 c1 b1 d1 a2 c2 a3 c3 b3 d3 a4 c4 a5 c5) :
    Calls Tryz.prog 75 #[.agg #[.int .i64 x.1.1, .int .i64 x.1.2.1, .int .i64 x.1.2.2.1, .int .i64 x.1.2.2.2, .slice a1 x.2.1.1.length c1, .slice b1 x.2.1.2.length d1, .slice a2 x.2.2.1.length c2, .slice a3 x.2.2.2.1.1.length c3, .int .i64 x.2.2.2.1.2.1, .bool x.2.2.2.1.2.2.1, .slice b3 x.2.2.2.1.2.2.2.length d3, .slice a4 x.2.2.2.2.1.length c4, .slice a5 x.2.2.2.2.2.length c5]] w fun e w' => e = .returned (.bool (decide (x.2.2.2.2.2.length ≤ 200) && x.2.2.2.2.2.all evB)) ∧ Below w.heap.size w w' := by
 have m : Hid _ := fun (W : World) (hb : Below w.heap.size w W) => allFitEvent a5 x.2.2.2.2.2 c5 W (slrd_next R.evs hb) R.evsl (fun u cs V hu hv hr => by
  obtain ⟨p, s, rfl, n, r, q⟩ := event_shape1 hr
  exact evOk u p s V q (Nat.le_trans n r))
 have l4 : x.2.2.2.2.2.length ≤ 9223372036854775807 := R.evsl;generalize x.2.2.2.2.2.all evB = n at m ⊢;clear R;by_cases d : x.2.2.2.2.2.length ≤ 200
 ·have v : (x.2.2.2.2.2.length : Int) ≤ 200 := by omega
  have g : Hid (x.2.2.2.2.2.length ≤ 200) := d;clear d;have B := Below.refl w.heap.size w;go_enter Tryz.func75, Tryz.ntmps75;go_upto_region 1 with fail
  generalize a : w.alloc _ = u1w;have F := boxH a;have c := boxB a;have b := boxL a;clear a;replace B := below_step B c;clear c;have i := Nat.le_of_eq b;have l := Nat.le_of_eq b.symm;clear b;obtain ⟨Fc0, Fc1, Fc2, Fc3, Fc4, Fc5, Fc6, Fc7, Fc8, Fc9, Fc10, Fc11, Fc12⟩ := cells_fabric F;have Flt := (ltH F);go_wp2_with fail
  clear Fc0 Fc1 Fc2 Fc3 Fc4 Fc5 Fc6 Fc7 Fc8 Fc9 Fc10 Fc11 Fc12 Flt;refine (m.out _ B).mono ?_;rintro e j ⟨rfl, f⟩;have o : u1w.heap.size ≤ j.heap.size := f.size;replace B := below_step B f;replace F := row_keep f F;clear f;obtain ⟨Fc0, Fc1, Fc2, Fc3, Fc4, Fc5, Fc6, Fc7, Fc8, Fc9, Fc10, Fc11, Fc12⟩ := cells_fabric F;have Flt := (ltH F);have k : Hid _ := B;clear B F;go_wp2;go_ret
  exact ⟨by simp [g.out], k.out⟩
 ·have v : ¬ ((x.2.2.2.2.2.length : Int) ≤ 200) := by omega
  have g : Hid (¬ x.2.2.2.2.2.length ≤ 200) := d;clear d;have B := Below.refl w.heap.size w;go_enter Tryz.func75, Tryz.ntmps75;go_upto_region 1 with fail
  generalize a : w.alloc _ = u1w;have F := boxH a;have c := boxB a;have b := boxL a;clear a;replace B := below_step B c;clear c;have i := Nat.le_of_eq b;have l := Nat.le_of_eq b.symm;clear b;obtain ⟨Fc0, Fc1, Fc2, Fc3, Fc4, Fc5, Fc6, Fc7, Fc8, Fc9, Fc10, Fc11, Fc12⟩ := cells_fabric F;have Flt := (ltH F);have k : Hid _ := B;clear B F;go_wp2;go_ret
  exact ⟨by simp [g.out], k.out⟩
end Go.Proofs.YtcocbafhcpdheaaGreatDoor
