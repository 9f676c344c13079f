import Derived.Test.YtdamokokcdcedaaGreatDoorE00Box
import Derived.Test.YtdamokokcdcedaaGreatDoorE41
namespace Go.Proofs.YtdamokokcdcedaaGreatDoor
set_option maxHeartbeats 2000000
set_option maxRecDepth 20000
open Go.ChangeShapes Go.WideShapes Go.ChangeAt Go.RowKit
set_option linter.unusedVariables false
set_option linter.unusedSimpArgs false
theorem op_eq4 (a b c d e f g h : Int) (w : World) : (Op.equalIn 10000 133 (.agg #[nI a, nI b, nI c, nI d]) (.agg #[nI e, nI f, nI g, nI h])).run Tryz.prog w = .ok (a == e && b == f && c == g && d == h) w := by
 have u3 := Tryz.underlying2;have a3 := Tryz.isAgg2;have z3 := Tryz.sizeOf2;have k : Tryz.prog.stoodInHeld 133 = false := by kernel_rfl
 rw [show (10000 : Nat) = 9999 + 1 from rfl, Op.equalIn];simp only [Sem.run_bind, run_underlying Tryz.underlying133, Result.andThen_ok];go_simp
 by_cases l : a = e <;> by_cases m : b = f <;> by_cases j : c = g <;> by_cases i : d = h <;> simp [l, m, j, i]
theorem ev_ok (x : EventD) : ((betw x.1 0 3 && evC x) || evP x) = evB x := by
 unfold evB;cases a : betw x.1 0 3
 ·simp
 ·have : evP x = false := by
    unfold evP;have : ¬ x.1 = 5 := fun q => by rw [q] at a; revert a; decide
    simp [this]
  rw [this]; simp
theorem evByCore (x : EventD) (ea : Option Addr) (ec : Nat) (w : World) (h : SlRd intR w ea x.2.2.2.2.1) (hl : x.2.2.2.2.1.length ≤ maxLen) :
    Calls Tryz.prog 215 #[.agg #[nI x.1, nI x.2.1.1, nI x.2.1.2.1, nI x.2.1.2.2.1, nI x.2.1.2.2.2, nI x.2.2.1, nI x.2.2.2.1, sL ea x.2.2.2.2.1.length ec, nI x.2.2.2.2.2]] w fun e w' => e = .returned (.bool (betw x.1 0 3 && evC x)) ∧ Bl w w' := by
 have C : Hid (∀ W, Bl w W → Calls Tryz.prog 225 #[nI x.1] W fun e w' => e = .returned (.bool (betw x.1 0 3)) ∧ Bl W w') := fun W k => (coreOk_any x.1 W).mono fun e w' ⟨q, r⟩ => ⟨q, be_eq r⟩;have v : Hid (∀ W, Bl w W → Calls Tryz.prog 247 #[.agg #[nI x.2.1.1, nI x.2.1.2.1, nI x.2.1.2.2.1, nI x.2.1.2.2.2]] W fun e w' => e = .returned (.bool (opOkD x.2.1)) ∧ Bl W w') := fun W k => implOpOk_any x.2.1.1 x.2.1.2.1 x.2.1.2.2.1 x.2.1.2.2.2 W;have U : x.2.2.2.2.1.length ≤ 9223372036854775807 := hl;clear h hl;unfold evC;generalize betw x.1 0 3 = q1 at C ⊢;generalize opOkD x.2.1 = q2 at v ⊢;by_cases p : x.2.2.1 = 0
 ·have J : (x.2.2.1 == 0) = true := by simp [p]
  have Hha : Hid (x.2.2.1 = 0) := p;clear p;by_cases k : x.2.2.2.1 = 0
  ·have D : (x.2.2.2.1 == 0) = true := by simp [k]
   have Hhb : Hid (x.2.2.2.1 = 0) := k;clear k;by_cases o : x.2.2.2.2.1.length = 0
   ·have K : ((x.2.2.2.2.1.length : Int) == 0) = true := by simp [o]
    have Hhd : Hid (x.2.2.2.2.1 = []) := List.length_eq_zero_iff.1 o;clear o;have B := Below.refl w.heap.size w;go_enter Tryz.func215, Tryz.ntmps215;go_upto_region 1 with fail
    generalize i : w.alloc _ = u1w;have E := boxH i;have j := boxB i;have d := boxL i;clear i;replace B := below_step B j;clear j;have n := lE d;have m := lE d.symm;clear d;obtain ⟨Ec0, Ec1, Ec2, Ec3, Ec4, Ec5, Ec6, Ec7, Ec8⟩ := cells_core E;have Elt := (ltH E);go_wp2_with fail
    clear Ec0 Ec1 Ec2 Ec3 Ec4 Ec5 Ec6 Ec7 Ec8 Elt;refine (C.out _ B).mono ?_;rintro e s ⟨rfl, a⟩;have R : u1w.heap.size ≤ s.heap.size := a.size;replace B := below_step B a;replace E := row_keep a E;clear a;cases q1
    ·skip
     obtain ⟨Ec0, Ec1, Ec2, Ec3, Ec4, Ec5, Ec6, Ec7, Ec8⟩ := cells_core E;have Elt := (ltH E);have b : Hid _ := B;clear B E;go_wp2;go_ret
     exact ⟨rfl, b.out⟩
    ·skip
     obtain ⟨Ec0, Ec1, Ec2, Ec3, Ec4, Ec5, Ec6, Ec7, Ec8⟩ := cells_core E;have Elt := (ltH E);go_wp2_with fail
     clear Ec0 Ec1 Ec2 Ec3 Ec4 Ec5 Ec6 Ec7 Ec8 Elt;refine (v.out _ B).mono ?_;rintro e I ⟨rfl, a⟩;have T : s.heap.size ≤ I.heap.size := a.size;replace B := below_step B a;replace E := row_keep a E;clear a;cases q2
     ·skip
      obtain ⟨Ec0, Ec1, Ec2, Ec3, Ec4, Ec5, Ec6, Ec7, Ec8⟩ := cells_core E;have Elt := (ltH E);have b : Hid _ := B;clear B E;go_wp2;go_ret
      exact ⟨rfl, b.out⟩
     ·skip
      obtain ⟨Ec0, Ec1, Ec2, Ec3, Ec4, Ec5, Ec6, Ec7, Ec8⟩ := cells_core E;have Elt := (ltH E);have b : Hid _ := B;clear B E;go_wp2;go_ret
      exact ⟨by simp [Hha.out, Hhb.out, Hhd.out], b.out⟩
   ·have K : ((x.2.2.2.2.1.length : Int) == 0) = false := by simp [o]
    have Hhd : Hid (¬ x.2.2.2.2.1 = []) := fun q => o (List.length_eq_zero_iff.2 q);clear o;have B := Below.refl w.heap.size w;go_enter Tryz.func215, Tryz.ntmps215;go_upto_region 1 with fail
    generalize f : w.alloc _ = u4w;have E := boxH f;have j := boxB f;have d := boxL f;clear f;replace B := below_step B j;clear j;have n := lE d;have m := lE d.symm;clear d;obtain ⟨Ec0, Ec1, Ec2, Ec3, Ec4, Ec5, Ec6, Ec7, Ec8⟩ := cells_core E;have Elt := (ltH E);go_wp2_with fail
    clear Ec0 Ec1 Ec2 Ec3 Ec4 Ec5 Ec6 Ec7 Ec8 Elt;refine (C.out _ B).mono ?_;rintro e A ⟨rfl, a⟩;have S : u4w.heap.size ≤ A.heap.size := a.size;replace B := below_step B a;replace E := row_keep a E;clear a;cases q1
    ·skip
     obtain ⟨Ec0, Ec1, Ec2, Ec3, Ec4, Ec5, Ec6, Ec7, Ec8⟩ := cells_core E;have Elt := (ltH E);have b : Hid _ := B;clear B E;go_wp2;go_ret
     exact ⟨rfl, b.out⟩
    ·skip
     obtain ⟨Ec0, Ec1, Ec2, Ec3, Ec4, Ec5, Ec6, Ec7, Ec8⟩ := cells_core E;have Elt := (ltH E);go_wp2_with fail
     clear Ec0 Ec1 Ec2 Ec3 Ec4 Ec5 Ec6 Ec7 Ec8 Elt;refine (v.out _ B).mono ?_;rintro e L ⟨rfl, a⟩;have N : A.heap.size ≤ L.heap.size := a.size;replace B := below_step B a;replace E := row_keep a E;clear a;cases q2
     ·skip
      obtain ⟨Ec0, Ec1, Ec2, Ec3, Ec4, Ec5, Ec6, Ec7, Ec8⟩ := cells_core E;have Elt := (ltH E);have b : Hid _ := B;clear B E;go_wp2;go_ret
      exact ⟨rfl, b.out⟩
     ·skip
      obtain ⟨Ec0, Ec1, Ec2, Ec3, Ec4, Ec5, Ec6, Ec7, Ec8⟩ := cells_core E;have Elt := (ltH E);have b : Hid _ := B;clear B E;go_wp2;go_ret
      exact ⟨by simp [Hha.out, Hhb.out, Hhd.out], b.out⟩
  ·have D : (x.2.2.2.1 == 0) = false := by simp [k]
   have Hhb : Hid (¬ x.2.2.2.1 = 0) := k;clear k;have B := Below.refl w.heap.size w;go_enter Tryz.func215, Tryz.ntmps215;go_upto_region 1 with fail
   generalize g : w.alloc _ = u7w;have E := boxH g;have j := boxB g;have d := boxL g;clear g;replace B := below_step B j;clear j;have n := lE d;have m := lE d.symm;clear d;obtain ⟨Ec0, Ec1, Ec2, Ec3, Ec4, Ec5, Ec6, Ec7, Ec8⟩ := cells_core E;have Elt := (ltH E);go_wp2_with fail
   clear Ec0 Ec1 Ec2 Ec3 Ec4 Ec5 Ec6 Ec7 Ec8 Elt;refine (C.out _ B).mono ?_;rintro e y ⟨rfl, a⟩;have M : u7w.heap.size ≤ y.heap.size := a.size;replace B := below_step B a;replace E := row_keep a E;clear a;cases q1
   ·skip
    obtain ⟨Ec0, Ec1, Ec2, Ec3, Ec4, Ec5, Ec6, Ec7, Ec8⟩ := cells_core E;have Elt := (ltH E);have b : Hid _ := B;clear B E;go_wp2;go_ret
    exact ⟨rfl, b.out⟩
   ·skip
    obtain ⟨Ec0, Ec1, Ec2, Ec3, Ec4, Ec5, Ec6, Ec7, Ec8⟩ := cells_core E;have Elt := (ltH E);go_wp2_with fail
    clear Ec0 Ec1 Ec2 Ec3 Ec4 Ec5 Ec6 Ec7 Ec8 Elt;refine (v.out _ B).mono ?_;rintro e G ⟨rfl, a⟩;have O : y.heap.size ≤ G.heap.size := a.size;replace B := below_step B a;replace E := row_keep a E;clear a;cases q2
    ·skip
     obtain ⟨Ec0, Ec1, Ec2, Ec3, Ec4, Ec5, Ec6, Ec7, Ec8⟩ := cells_core E;have Elt := (ltH E);have b : Hid _ := B;clear B E;go_wp2;go_ret
     exact ⟨rfl, b.out⟩
    ·skip
     obtain ⟨Ec0, Ec1, Ec2, Ec3, Ec4, Ec5, Ec6, Ec7, Ec8⟩ := cells_core E;have Elt := (ltH E);have b : Hid _ := B;clear B E;go_wp2;go_ret
     exact ⟨by simp [Hha.out, Hhb.out], b.out⟩
 ·have J : (x.2.2.1 == 0) = false := by simp [p]
  have Hha : Hid (¬ x.2.2.1 = 0) := p;clear p;have B := Below.refl w.heap.size w;go_enter Tryz.func215, Tryz.ntmps215;go_upto_region 1 with fail
  generalize c : w.alloc _ = u10w;have E := boxH c;have j := boxB c;have d := boxL c;clear c;replace B := below_step B j;clear j;have n := lE d;have m := lE d.symm;clear d;obtain ⟨Ec0, Ec1, Ec2, Ec3, Ec4, Ec5, Ec6, Ec7, Ec8⟩ := cells_core E;have Elt := (ltH E);go_wp2_with fail
  clear Ec0 Ec1 Ec2 Ec3 Ec4 Ec5 Ec6 Ec7 Ec8 Elt;refine (C.out _ B).mono ?_;rintro e l ⟨rfl, a⟩;have F : u10w.heap.size ≤ l.heap.size := a.size;replace B := below_step B a;replace E := row_keep a E;clear a;cases q1
  ·skip
   obtain ⟨Ec0, Ec1, Ec2, Ec3, Ec4, Ec5, Ec6, Ec7, Ec8⟩ := cells_core E;have Elt := (ltH E);have b : Hid _ := B;clear B E;go_wp2;go_ret
   exact ⟨rfl, b.out⟩
  ·skip
   obtain ⟨Ec0, Ec1, Ec2, Ec3, Ec4, Ec5, Ec6, Ec7, Ec8⟩ := cells_core E;have Elt := (ltH E);go_wp2_with fail
   clear Ec0 Ec1 Ec2 Ec3 Ec4 Ec5 Ec6 Ec7 Ec8 Elt;refine (v.out _ B).mono ?_;rintro e z ⟨rfl, a⟩;have H : l.heap.size ≤ z.heap.size := a.size;replace B := below_step B a;replace E := row_keep a E;clear a;cases q2
   ·skip
    obtain ⟨Ec0, Ec1, Ec2, Ec3, Ec4, Ec5, Ec6, Ec7, Ec8⟩ := cells_core E;have Elt := (ltH E);have b : Hid _ := B;clear B E;go_wp2;go_ret
    exact ⟨rfl, b.out⟩
   ·skip
    obtain ⟨Ec0, Ec1, Ec2, Ec3, Ec4, Ec5, Ec6, Ec7, Ec8⟩ := cells_core E;have Elt := (ltH E);have b : Hid _ := B;clear B E;go_wp2;go_ret
    exact ⟨by simp [Hha.out], b.out⟩
theorem evByDma (x : EventD) (ea : Option Addr) (ec : Nat) (w : World) (h : SlRd intR w ea x.2.2.2.2.1) (hl : x.2.2.2.2.1.length ≤ maxLen) :
    Calls Tryz.prog 216 #[.agg #[nI x.1, nI x.2.1.1, nI x.2.1.2.1, nI x.2.1.2.2.1, nI x.2.1.2.2.2, nI x.2.2.1, nI x.2.2.2.1, sL ea x.2.2.2.2.1.length ec, nI x.2.2.2.2.2]] w fun e w' => e = .returned (.bool (evP x)) ∧ Bl w w' := by
 have G : Hid (∀ W, Bl w W → Calls Tryz.prog 245 #[nI x.2.2.1] W fun e w' => e = .returned (.bool (betw x.2.2.1 0 15)) ∧ Bl W w') := fun W hb => (lineNo_any x.2.2.1 W).mono fun e w' ⟨q, r⟩ => ⟨q, be_eq r⟩;have C : Hid (∀ W, Bl w W → Calls Tryz.prog 160 #[nI x.2.2.2.1] W fun e w' => e = .returned (.bool (betw x.2.2.2.1 0 3)) ∧ Bl W w') := fun W hb => (maskOk_any x.2.2.2.1 W).mono fun e w' ⟨q, r⟩ => ⟨q, be_eq r⟩;have H : Hid (∀ W, Bl w W → Calls Tryz.prog 91 #[sL ea x.2.2.2.2.1.length ec] W fun e w' => e = .returned (.bool (isL x.2.2.2.2.1)) ∧ Bl W w') := fun W hb => implLineOk_any ea x.2.2.2.2.1 ec W (reads_of (slrd_next h hb));clear h hl;unfold evP;generalize betw x.2.2.1 0 15 = q3 at G ⊢;generalize betw x.2.2.2.1 0 3 = q4 at C ⊢;generalize isL x.2.2.2.2.1 = q5 at H ⊢;by_cases o : x.1 = 5
 ·have z : (x.1 == 5) = true := by simp [o]
  have Hha : Hid (x.1 = 5) := o;clear o;by_cases m : x.2.1 = (0, 0, 0, 0)
  ·have y : ∀ V, (Op.equalIn 10000 133 (.agg #[nI x.2.1.1, nI x.2.1.2.1, nI x.2.1.2.2.1, nI x.2.1.2.2.2]) (.agg #[nI 0, nI 0, nI 0, nI 0])).run Tryz.prog V = .ok true V := fun V => by rw [op_eq4]; rw [m]; rfl
   have Hhk : Hid (x.2.1 = (0, 0, 0, 0)) := m;clear m;by_cases n : x.2.2.2.2.2 = 0
   ·have v : (x.2.2.2.2.2 == 0) = true := by simp [n]
    have Hht : Hid (x.2.2.2.2.2 = 0) := n;clear n;have B := Below.refl w.heap.size w;go_enter Tryz.func216, Tryz.ntmps216;go_upto_region 1 with fail
    generalize g : w.alloc _ = u1w;have E := boxH g;have i := boxB g;have a := boxL g;clear g;replace B := below_step B i;clear i;have l := lE a;have k := lE a.symm;clear a;obtain ⟨Ec0, Ec1, Ec2, Ec3, Ec4, Ec5, Ec6, Ec7, Ec8⟩ := cells_core E;have Elt := (ltH E);go_wp2_with fail
    clear Ec0 Ec1 Ec2 Ec3 Ec4 Ec5 Ec6 Ec7 Ec8 Elt;refine (G.out _ B).mono ?_;rintro e p ⟨rfl, d⟩;have D : u1w.heap.size ≤ p.heap.size := d.size;replace B := below_step B d;replace E := row_keep d E;clear d;cases q3
    ·skip
     obtain ⟨Ec0, Ec1, Ec2, Ec3, Ec4, Ec5, Ec6, Ec7, Ec8⟩ := cells_core E;have Elt := (ltH E);have j : Hid _ := B;clear B E;go_wp2;go_ret
     exact ⟨by simp [Hha.out, Hhk.out, Hht.out], j.out⟩
    ·skip
     obtain ⟨Ec0, Ec1, Ec2, Ec3, Ec4, Ec5, Ec6, Ec7, Ec8⟩ := cells_core E;have Elt := (ltH E);go_wp2_with fail
     clear Ec0 Ec1 Ec2 Ec3 Ec4 Ec5 Ec6 Ec7 Ec8 Elt;refine (C.out _ B).mono ?_;rintro e s ⟨rfl, d⟩;have I : p.heap.size ≤ s.heap.size := d.size;replace B := below_step B d;replace E := row_keep d E;clear d;cases q4
     ·skip
      obtain ⟨Ec0, Ec1, Ec2, Ec3, Ec4, Ec5, Ec6, Ec7, Ec8⟩ := cells_core E;have Elt := (ltH E);have j : Hid _ := B;clear B E;go_wp2;go_ret
      exact ⟨by simp [Hha.out, Hhk.out, Hht.out], j.out⟩
     ·skip
      obtain ⟨Ec0, Ec1, Ec2, Ec3, Ec4, Ec5, Ec6, Ec7, Ec8⟩ := cells_core E;have Elt := (ltH E);go_wp2_with fail
      clear Ec0 Ec1 Ec2 Ec3 Ec4 Ec5 Ec6 Ec7 Ec8 Elt;refine (H.out _ B).mono ?_;rintro e A ⟨rfl, d⟩;have F : s.heap.size ≤ A.heap.size := d.size;replace B := below_step B d;replace E := row_keep d E;clear d;obtain ⟨Ec0, Ec1, Ec2, Ec3, Ec4, Ec5, Ec6, Ec7, Ec8⟩ := cells_core E;have Elt := (ltH E);have j : Hid _ := B;clear B E;go_wp2;go_ret
      exact ⟨by simp [Hha.out, Hhk.out, Hht.out], j.out⟩
   ·have v : (x.2.2.2.2.2 == 0) = false := by simp [n]
    have Hht : Hid (¬ x.2.2.2.2.2 = 0) := n;clear n;have B := Below.refl w.heap.size w;go_enter Tryz.func216, Tryz.ntmps216;go_upto_region 1 with fail
    generalize c : w.alloc _ = u5w;have E := boxH c;have i := boxB c;have a := boxL c;clear c;replace B := below_step B i;clear i;have l := lE a;have k := lE a.symm;clear a;obtain ⟨Ec0, Ec1, Ec2, Ec3, Ec4, Ec5, Ec6, Ec7, Ec8⟩ := cells_core E;have Elt := (ltH E);have j : Hid _ := B;clear B E;go_wp2;go_ret
    exact ⟨by simp [Hha.out, Hhk.out, Hht.out], j.out⟩
  ·have y : ∀ V, (Op.equalIn 10000 133 (.agg #[nI x.2.1.1, nI x.2.1.2.1, nI x.2.1.2.2.1, nI x.2.1.2.2.2]) (.agg #[nI 0, nI 0, nI 0, nI 0])).run Tryz.prog V = .ok false V := fun V => by rw [op_eq4]; congr 1; refine Bool.eq_false_iff.2 fun q => m ?_; simp only [Bool.and_eq_true, beq_iff_eq] at q; exact Prod.ext q.1.1.1 (Prod.ext q.1.1.2 (Prod.ext q.1.2 q.2))
   have Hhk : Hid (¬ x.2.1 = (0, 0, 0, 0)) := m;clear m;have B := Below.refl w.heap.size w;go_enter Tryz.func216, Tryz.ntmps216;go_upto_region 1 with fail
   generalize b : w.alloc _ = u6w;have E := boxH b;have i := boxB b;have a := boxL b;clear b;replace B := below_step B i;clear i;have l := lE a;have k := lE a.symm;clear a;obtain ⟨Ec0, Ec1, Ec2, Ec3, Ec4, Ec5, Ec6, Ec7, Ec8⟩ := cells_core E;have Elt := (ltH E);have j : Hid _ := B;clear B E;go_wp2;go_ret
   exact ⟨by simp [Hha.out, Hhk.out], j.out⟩
 ·have z : (x.1 == 5) = false := by simp [o]
  have Hha : Hid (¬ x.1 = 5) := o;clear o;have B := Below.refl w.heap.size w;go_enter Tryz.func216, Tryz.ntmps216;go_upto_region 1 with fail
  generalize f : w.alloc _ = u7w;have E := boxH f;have i := boxB f;have a := boxL f;clear f;replace B := below_step B i;clear i;have l := lE a;have k := lE a.symm;clear a;obtain ⟨Ec0, Ec1, Ec2, Ec3, Ec4, Ec5, Ec6, Ec7, Ec8⟩ := cells_core E;have Elt := (ltH E);have j : Hid _ := B;clear B E;go_wp2;go_ret
  exact ⟨by simp [Hha.out], j.out⟩
theorem evOk (x : EventD) (ea : Option Addr) (ec : Nat) (w : World) (h : SlRd intR w ea x.2.2.2.2.1) (hl : x.2.2.2.2.1.length ≤ maxLen) :
    Calls Tryz.prog 155 #[.agg #[nI x.1, nI x.2.1.1, nI x.2.1.2.1, nI x.2.1.2.2.1, nI x.2.1.2.2.2, nI x.2.2.1, nI x.2.2.2.1, sL ea x.2.2.2.2.1.length ec, nI x.2.2.2.2.2]] w fun e w' => e = .returned (.bool (evB x)) ∧ Bl w w' := by
 have k : Hid (∀ W, Bl w W → Calls Tryz.prog 215 #[.agg #[nI x.1, nI x.2.1.1, nI x.2.1.2.1, nI x.2.1.2.2.1, nI x.2.1.2.2.2, nI x.2.2.1, nI x.2.2.2.1, sL ea x.2.2.2.2.1.length ec, nI x.2.2.2.2.2]] W fun e w' => e = .returned (.bool (betw x.1 0 3 && evC x)) ∧ Bl W w') := fun W hb => evByCore x ea ec W (slrd_next h hb) hl;have j : Hid (∀ W, Bl w W → Calls Tryz.prog 216 #[.agg #[nI x.1, nI x.2.1.1, nI x.2.1.2.1, nI x.2.1.2.2.1, nI x.2.1.2.2.2, nI x.2.2.1, nI x.2.2.2.1, sL ea x.2.2.2.2.1.length ec, nI x.2.2.2.2.2]] W fun e w' => e = .returned (.bool (evP x)) ∧ Bl W w') := fun W hb => evByDma x ea ec W (slrd_next h hb) hl;rw [← ev_ok];clear h hl;generalize (betw x.1 0 3 && evC x) = q1 at k ⊢;generalize evP x = q2 at j ⊢;have B := Below.refl w.heap.size w;go_enter Tryz.func155, Tryz.ntmps155;go_upto_region 1 with fail
 generalize a : w.alloc _ = u1w;have E := boxH a;have i := boxB a;have f := boxL a;clear a;replace B := below_step B i;clear i;have o := lE f;have n := lE f.symm;clear f;obtain ⟨Ec0, Ec1, Ec2, Ec3, Ec4, Ec5, Ec6, Ec7, Ec8⟩ := cells_core E;have Elt := (ltH E);go_wp2_with fail
 clear Ec0 Ec1 Ec2 Ec3 Ec4 Ec5 Ec6 Ec7 Ec8 Elt;refine (k.out _ B).mono ?_;rintro e c ⟨rfl, b⟩;have l : u1w.heap.size ≤ c.heap.size := b.size;replace B := below_step B b;replace E := row_keep b E;clear b;cases q1
 ·skip
  obtain ⟨Ec0, Ec1, Ec2, Ec3, Ec4, Ec5, Ec6, Ec7, Ec8⟩ := cells_core E;have Elt := (ltH E);go_wp2_with fail
  clear Ec0 Ec1 Ec2 Ec3 Ec4 Ec5 Ec6 Ec7 Ec8 Elt;refine (j.out _ B).mono ?_;rintro e d ⟨rfl, b⟩;have m : c.heap.size ≤ d.heap.size := b.size;replace B := below_step B b;replace E := row_keep b E;clear b;obtain ⟨Ec0, Ec1, Ec2, Ec3, Ec4, Ec5, Ec6, Ec7, Ec8⟩ := cells_core E;have Elt := (ltH E);have g : Hid _ := B;clear B E;go_wp2;go_ret
  exact ⟨by simp, g.out⟩
 ·skip
  obtain ⟨Ec0, Ec1, Ec2, Ec3, Ec4, Ec5, Ec6, Ec7, Ec8⟩ := cells_core E;have Elt := (ltH E);have g : Hid _ := B;clear B E;go_wp2;go_ret
  exact ⟨by simp, g.out⟩
theorem fabEvents_any (x : FabricD) (a1 : Option Addr) (c1 : Nat) (b1 : Option Addr) (d1 : Nat) (a2 : Option Addr) (c2 : Nat) (a3 : Option Addr) (c3 : Nat) (b3 : Option Addr) (d3 : Nat) (a4 : Option Addr) (c4 : Nat) (a5 : Option Addr) (c5 : Nat) (w : World) (R : FabRd w x a1 c1 b1 d1 a2 c2 a3 c3 b3 d3 a4 c4 a5 c5) :
    Calls Tryz.prog 88 #[.agg #[nI x.1.1, nI x.1.2.1, nI x.1.2.2.1, nI x.1.2.2.2, sL a1 x.2.1.1.length c1, sL b1 x.2.1.2.length d1, sL a2 x.2.2.1.length c2, sL a3 x.2.2.2.1.1.length c3, nI x.2.2.2.1.2.1, .bool x.2.2.2.1.2.2.1, sL b3 x.2.2.2.1.2.2.2.length d3, sL a4 x.2.2.2.2.1.length c4, sL a5 x.2.2.2.2.2.length c5]] w fun e w' => e = .returned (.bool (decide (x.2.2.2.2.2.length ≤ 200) && x.2.2.2.2.2.all evB)) ∧ Bl w w' := by
 have n : Hid (∀ W, Bl w W → Calls Tryz.prog 154 #[sL a5 x.2.2.2.2.2.length c5, .func (.func 155) #[] #[]] W fun e w' => e = .returned (.bool (x.2.2.2.2.2.all evB)) ∧ Bl W w') := fun W hb => allFitEvent a5 x.2.2.2.2.2 c5 W (slrd_next R.evs hb) R.evsl (fun u cs V hu hv hr => by
  obtain ⟨p, r, rfl, m, s, v⟩ := event_shape1 hr
  exact evOk u p r V v (Nat.le_trans m s))
 have l4 : x.2.2.2.2.2.length ≤ 9223372036854775807 := R.evsl;generalize x.2.2.2.2.2.all evB = m at n ⊢;clear R;by_cases f : x.2.2.2.2.2.length ≤ 200
 ·have q : (x.2.2.2.2.2.length : Int) ≤ 200 := by omega
  have i : Hid (x.2.2.2.2.2.length ≤ 200) := f;clear f;have B := Below.refl w.heap.size w;go_enter Tryz.func88, Tryz.ntmps88;go_upto_region 1 with fail
  generalize a : w.alloc _ = u1w;have F := boxH a;have c := boxB a;have b := boxL a;clear a;replace B := below_step B c;clear c;have j := lE b;have l := lE b.symm;clear b;obtain ⟨Fc0, Fc1, Fc2, Fc3, Fc4, Fc5, Fc6, Fc7, Fc8, Fc9, Fc10, Fc11, Fc12⟩ := cells_fabric F;have Flt := (ltH F);go_wp2_with fail
  clear Fc0 Fc1 Fc2 Fc3 Fc4 Fc5 Fc6 Fc7 Fc8 Fc9 Fc10 Fc11 Fc12 Flt;refine (n.out _ B).mono ?_;rintro e g ⟨rfl, d⟩;have o : u1w.heap.size ≤ g.heap.size := d.size;replace B := below_step B d;replace F := row_keep d F;clear d;obtain ⟨Fc0, Fc1, Fc2, Fc3, Fc4, Fc5, Fc6, Fc7, Fc8, Fc9, Fc10, Fc11, Fc12⟩ := cells_fabric F;have Flt := (ltH F);have k : Hid _ := B;clear B F;go_wp2;go_ret
  exact ⟨by simp [i.out], k.out⟩
 ·have q : ¬ ((x.2.2.2.2.2.length : Int) ≤ 200) := by omega
  have i : Hid (¬ x.2.2.2.2.2.length ≤ 200) := f;clear f;have B := Below.refl w.heap.size w;go_enter Tryz.func88, Tryz.ntmps88;go_upto_region 1 with fail
  generalize a : w.alloc _ = u1w;have F := boxH a;have c := boxB a;have b := boxL a;clear a;replace B := below_step B c;clear c;have j := lE b;have l := lE b.symm;clear b;obtain ⟨Fc0, Fc1, Fc2, Fc3, Fc4, Fc5, Fc6, Fc7, Fc8, Fc9, Fc10, Fc11, Fc12⟩ := cells_fabric F;have Flt := (ltH F);have k : Hid _ := B;clear B F;go_wp2;go_ret
  exact ⟨by simp [i.out], k.out⟩
end Go.Proofs.YtdamokokcdcedaaGreatDoor
