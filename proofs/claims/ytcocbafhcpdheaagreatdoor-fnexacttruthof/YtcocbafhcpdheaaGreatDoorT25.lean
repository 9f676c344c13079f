import Derived.Test.YtcocbafhcpdheaaGreatDoorT00Box
import Derived.Test.YtcocbafhcpdheaaGreatDoorT24
namespace Go.Proofs.YtcocbafhcpdheaaGreatDoor
set_option maxHeartbeats 4000000
set_option maxRecDepth 20000
open Go.ChangeShapes Go.WideShapes Go.ChangeAt Go.RowKit
set_option linter.unusedVariables false
theorem zDp {c s y l : Int} (h : zBe c s y l = 0) : (1 ≤ c ∧ c ≤ 4) ∧ (1 ≤ l ∧ l ≤ 16) := by
 have a := zFv h;refine ⟨?_, a.1⟩;unfold zBe at h;split at h
 ·rename_i q; simpa [zA8] using q
 ·cases h
def zCj (c k : Int) : Bool := zA8 k 0 (c - 1)
def zCJ (c k : Int) : Bool := decide (k = 4) || (decide (k = 5) || zCj c k)
def zD7 (l k : Int) : Bool := zA8 k 0 (l - 1)
def zDY (l : Int) (u : zC3) : Bool := decide (u.1 = -1) || zD7 l u.1
def zIi (c l : Int) (m : zDy) : Bool := zCJ c m.2.1 && (zCJ c m.2.2.1 && zD7 l m.2.2.2.2.1)
theorem zK5 {c s y l k : Int} (h : zBe c s y l = 0) : zEr c s y l k = zD7 l k := lineB_eq h
theorem zGF (c s y l k : Int) (w : World) (hc : zBe c s y l = 0) :
    Calls Tryz.prog 169 #[.agg #[.int .i64 c, .int .i64 s, .int .i64 y, .int .i64 l], .int .i64 k] w fun e w' => e = .returned (.bool (zCj c k)) ∧ Below w.heap.size w w' := by
 have f := (zDp hc).1;have hw : IntKind.i64.wrap (c - 1) = c - 1 := by rw [IntKind.wrap_i64]; omega
 have b : Hid (∀ W, Calls Tryz.prog 76 #[.int .i64 k, .int .i64 0, .int .i64 (c - 1)] W fun e w' => e = .returned (.bool (zCj c k)) ∧ Below W.heap.size W w') := fun W => (zAw k 0 (c - 1) W).mono fun e w' ⟨q, r⟩ => ⟨q, zEO r⟩;generalize zCj c k = q at b ⊢;clear hc f;have B := Below.refl w.heap.size w;go_enter Tryz.func169, Tryz.ntmps169;go_upto_region 1 with fail
 generalize a : w.alloc _ = u1w;have X := boxH a;have m := boxB a;have g := boxL a;clear a;replace B := zAa B m;clear m;have n := Nat.le_of_eq g;have o := Nat.le_of_eq g.symm;clear g;obtain ⟨Xc0, Xc1, Xc2, Xc3⟩ := zA5 X;have Xlt := (ltH X);go_wp2_with fail
 clear Xc0 Xc1 Xc2 Xc3 Xlt;refine (b.out _).mono ?_;rintro e i ⟨rfl, d⟩;have j : u1w.heap.size ≤ i.heap.size := d.size;replace B := zAa B d;replace X := zAb d X;clear d;obtain ⟨Xc0, Xc1, Xc2, Xc3⟩ := zA5 X;have Xlt := (ltH X);have p : Hid _ := B;clear B X;go_wp2;go_ret
 exact ⟨rfl, p.out⟩
theorem zEs (c s y l k : Int) (w : World) (hc : zBe c s y l = 0) :
    Calls Tryz.prog 165 #[.agg #[.int .i64 c, .int .i64 s, .int .i64 y, .int .i64 l], .int .i64 k] w fun e w' => e = .returned (.bool (zCJ c k)) ∧ Below w.heap.size w w' := by
 have i : Hid (∀ W, Calls Tryz.prog 169 #[.agg #[.int .i64 c, .int .i64 s, .int .i64 y, .int .i64 l], .int .i64 k] W fun e w' => e = .returned (.bool (zCj c k)) ∧ Below W.heap.size W w') := fun W => zGF c s y l k W hc;unfold zCJ;generalize zCj c k = q at i ⊢;clear hc;by_cases f : k = 4
 ·have z : (k == 4) = true := by simp [f]
  rw [show (decide (k = 4) || (decide (k = 5) || q)) = true from by simp [f]];clear f;have B := Below.refl w.heap.size w;go_enter Tryz.func165, Tryz.ntmps165;go_upto_region 1 with fail
  generalize a : w.alloc _ = u1w;have X := boxH a;have d := boxB a;have b := boxL a;clear a;replace B := zAa B d;clear d;have j := Nat.le_of_eq b;have m := Nat.le_of_eq b.symm;clear b;obtain ⟨Xc0, Xc1, Xc2, Xc3⟩ := zA5 X;have Xlt := (ltH X);have n : Hid _ := B;clear B X;go_wp2;go_ret
  exact ⟨rfl, n.out⟩
 ·have z : (k == 4) = false := by simp [f]
  by_cases g : k = 5
  ·have v : (k == 5) = true := by simp [g]
   rw [show (decide (k = 4) || (decide (k = 5) || q)) = true from by simp [g]];clear f g;have B := Below.refl w.heap.size w;go_enter Tryz.func165, Tryz.ntmps165;go_upto_region 1 with fail
   generalize a : w.alloc _ = u1w;have X := boxH a;have d := boxB a;have b := boxL a;clear a;replace B := zAa B d;clear d;have j := Nat.le_of_eq b;have m := Nat.le_of_eq b.symm;clear b;obtain ⟨Xc0, Xc1, Xc2, Xc3⟩ := zA5 X;have Xlt := (ltH X);have n : Hid _ := B;clear B X;go_wp2;go_ret
   exact ⟨rfl, n.out⟩
  ·have v : (k == 5) = false := by simp [g]
   rw [show (decide (k = 4) || (decide (k = 5) || q)) = q from by simp [f, g]];clear f g;have B := Below.refl w.heap.size w;go_enter Tryz.func165, Tryz.ntmps165;go_upto_region 1 with fail
   generalize a : w.alloc _ = u1w;have X := boxH a;have d := boxB a;have b := boxL a;clear a;replace B := zAa B d;clear d;have j := Nat.le_of_eq b;have m := Nat.le_of_eq b.symm;clear b;obtain ⟨Xc0, Xc1, Xc2, Xc3⟩ := zA5 X;have Xlt := (ltH X);go_wp2_with fail
   clear Xc0 Xc1 Xc2 Xc3 Xlt;refine (i.out _).mono ?_;rintro e p ⟨rfl, o⟩;have r : u1w.heap.size ≤ p.heap.size := o.size;replace B := zAa B o;replace X := zAb o X;clear o;obtain ⟨Xc0, Xc1, Xc2, Xc3⟩ := zA5 X;have Xlt := (ltH X);have n : Hid _ := B;clear B X;go_wp2;go_ret
   exact ⟨rfl, n.out⟩
theorem zGG (c s y l : Int) (u : zC3) (ua : Option Addr) (uc : Nat) (w : World) (hc : zBe c s y l = 0) :
    Calls Tryz.prog 175 #[.agg #[.int .i64 c, .int .i64 s, .int .i64 y, .int .i64 l], .agg #[.int .i64 u.1, .int .i64 u.2.1, .slice ua u.2.2.length uc]] w fun e w' => e = .returned (.bool (zDY l u)) ∧ Below w.heap.size w w' := by
 have j : Hid (∀ W, Calls Tryz.prog 36 #[.agg #[.int .i64 c, .int .i64 s, .int .i64 y, .int .i64 l], .int .i64 u.1] W fun e w' => e = .returned (.bool (zD7 l u.1)) ∧ Below W.heap.size W w') := fun W => by rw [← zK5 hc]; exact zCR c s y l u.1 W
 unfold zDY;generalize zD7 l u.1 = q at j ⊢;clear hc;by_cases i : u.1 = -1
 ·have A : (u.1 == -1) = true := by simp [i]
  rw [show (decide (u.1 = -1) || q) = true from by simp [i]];clear i;have B := Below.refl w.heap.size w;go_enter Tryz.func175, Tryz.ntmps175;go_upto_region 1 with fail
  generalize b : w.alloc _ = u1w;have X := boxH b;have d := boxB b;have f := boxL b;clear b;replace B := zAa B d;clear d;have p := Nat.le_of_eq f;have r := Nat.le_of_eq f.symm;clear f;generalize a : u1w.alloc _ = u2w;have V := boxH a;have d := boxB a;have g := boxL a;clear a;rw [show u1w.heap.size = w.heap.size + 1 from by omega] at V;replace B := zAa B d;replace X := zAb d X;clear d;have n := Nat.le_of_eq g;have m := Nat.le_of_eq g.symm;clear g;obtain ⟨Xc0, Xc1, Xc2, Xc3⟩ := zA5 X;have Xlt := (ltH X);obtain ⟨Vc0, Vc1, Vc2⟩ := zCh V;have Vlt := (ltH V);have v : Hid _ := B;clear B X V;go_wp2;go_ret
  exact ⟨rfl, v.out⟩
 ·have A : (u.1 == -1) = false := by simp [i]
  rw [show (decide (u.1 = -1) || q) = q from by simp [i]];clear i;have B := Below.refl w.heap.size w;go_enter Tryz.func175, Tryz.ntmps175;go_upto_region 1 with fail
  generalize b : w.alloc _ = u1w;have X := boxH b;have d := boxB b;have f := boxL b;clear b;replace B := zAa B d;clear d;have p := Nat.le_of_eq f;have r := Nat.le_of_eq f.symm;clear f;generalize a : u1w.alloc _ = u2w;have V := boxH a;have d := boxB a;have g := boxL a;clear a;rw [show u1w.heap.size = w.heap.size + 1 from by omega] at V;replace B := zAa B d;replace X := zAb d X;clear d;have n := Nat.le_of_eq g;have m := Nat.le_of_eq g.symm;clear g;obtain ⟨Xc0, Xc1, Xc2, Xc3⟩ := zA5 X;have Xlt := (ltH X);obtain ⟨Vc0, Vc1, Vc2⟩ := zCh V;have Vlt := (ltH V);go_wp2_with fail
  clear Xc0 Xc1 Xc2 Xc3 Xlt Vc0 Vc1 Vc2 Vlt;refine (j.out _).mono ?_;rintro e o ⟨rfl, k⟩;have z : u2w.heap.size ≤ o.heap.size := k.size;replace B := zAa B k;replace X := zAb k X;replace V := zAb k V;clear k;obtain ⟨Xc0, Xc1, Xc2, Xc3⟩ := zA5 X;have Xlt := (ltH X);obtain ⟨Vc0, Vc1, Vc2⟩ := zCh V;have Vlt := (ltH V);have v : Hid _ := B;clear B X V;go_wp2;go_ret
  exact ⟨rfl, v.out⟩
theorem zHr (c s y l : Int) (m : zDy) (ma : Option Addr) (mc : Nat) (w : World) (hc : zBe c s y l = 0) :
    Calls Tryz.prog 129 #[.agg #[.int .i64 c, .int .i64 s, .int .i64 y, .int .i64 l], .agg #[.int .i64 m.1, .int .i64 m.2.1, .int .i64 m.2.2.1, .int .i64 m.2.2.2.1, .int .i64 m.2.2.2.2.1, .slice ma m.2.2.2.2.2.1.length mc, .int .i64 m.2.2.2.2.2.2]] w fun e w' => e = .returned (.bool (zIi c l m)) ∧ Below w.heap.size w w' := by
 have p : Hid (∀ W, Calls Tryz.prog 165 #[.agg #[.int .i64 c, .int .i64 s, .int .i64 y, .int .i64 l], .int .i64 m.2.1] W fun e w' => e = .returned (.bool (zCJ c m.2.1)) ∧ Below W.heap.size W w') := fun W => zEs c s y l m.2.1 W hc;have r : Hid (∀ W, Calls Tryz.prog 165 #[.agg #[.int .i64 c, .int .i64 s, .int .i64 y, .int .i64 l], .int .i64 m.2.2.1] W fun e w' => e = .returned (.bool (zCJ c m.2.2.1)) ∧ Below W.heap.size W w') := fun W => zEs c s y l m.2.2.1 W hc;have q : Hid (∀ W, Calls Tryz.prog 36 #[.agg #[.int .i64 c, .int .i64 s, .int .i64 y, .int .i64 l], .int .i64 m.2.2.2.2.1] W fun e w' => e = .returned (.bool (zD7 l m.2.2.2.2.1)) ∧ Below W.heap.size W w') := fun W => by rw [← zK5 hc]; exact zCR c s y l m.2.2.2.2.1 W
 unfold zIi;generalize zCJ c m.2.1 = q1 at p ⊢;generalize zCJ c m.2.2.1 = q2 at r ⊢;generalize zD7 l m.2.2.2.2.1 = q3 at q ⊢;clear hc;have B := Below.refl w.heap.size w;go_enter Tryz.func129, Tryz.ntmps129;go_upto_region 1 with fail
 generalize d : w.alloc _ = u1w;have X := boxH d;have f := boxB d;have n := boxL d;clear d;replace B := zAa B f;clear f;have C := Nat.le_of_eq n;have D := Nat.le_of_eq n.symm;clear n;generalize b : u1w.alloc _ = u2w;have M := boxH b;have f := boxB b;have k := boxL b;clear b;rw [show u1w.heap.size = w.heap.size + 1 from by omega] at M;replace B := zAa B f;replace X := zAb f X;clear f;have E := Nat.le_of_eq k;have F := Nat.le_of_eq k.symm;clear k;obtain ⟨Xc0, Xc1, Xc2, Xc3⟩ := zA5 X;have Xlt := (ltH X);obtain ⟨Mc0, Mc1, Mc2, Mc3, Mc4, Mc5, Mc6⟩ := zAQ M;have Mlt := (ltH M);go_wp2_with fail
 clear Xc0 Xc1 Xc2 Xc3 Xlt Mc0 Mc1 Mc2 Mc3 Mc4 Mc5 Mc6 Mlt;refine (p.out _).mono ?_;rintro e i ⟨rfl, a⟩;have A : u2w.heap.size ≤ i.heap.size := a.size;replace B := zAa B a;replace X := zAb a X;replace M := zAb a M;clear a;cases q1
 ·skip
  obtain ⟨Xc0, Xc1, Xc2, Xc3⟩ := zA5 X;have Xlt := (ltH X);obtain ⟨Mc0, Mc1, Mc2, Mc3, Mc4, Mc5, Mc6⟩ := zAQ M;have Mlt := (ltH M);have j : Hid _ := B;clear B X M;go_wp2;go_ret
  exact ⟨rfl, j.out⟩
 ·skip
  obtain ⟨Xc0, Xc1, Xc2, Xc3⟩ := zA5 X;have Xlt := (ltH X);obtain ⟨Mc0, Mc1, Mc2, Mc3, Mc4, Mc5, Mc6⟩ := zAQ M;have Mlt := (ltH M);go_wp2_with fail
  clear Xc0 Xc1 Xc2 Xc3 Xlt Mc0 Mc1 Mc2 Mc3 Mc4 Mc5 Mc6 Mlt;refine (r.out _).mono ?_;rintro e g ⟨rfl, a⟩;have z : i.heap.size ≤ g.heap.size := a.size;replace B := zAa B a;replace X := zAb a X;replace M := zAb a M;clear a;cases q2
  ·skip
   obtain ⟨Xc0, Xc1, Xc2, Xc3⟩ := zA5 X;have Xlt := (ltH X);obtain ⟨Mc0, Mc1, Mc2, Mc3, Mc4, Mc5, Mc6⟩ := zAQ M;have Mlt := (ltH M);have j : Hid _ := B;clear B X M;go_wp2;go_ret
   exact ⟨rfl, j.out⟩
  ·skip
   obtain ⟨Xc0, Xc1, Xc2, Xc3⟩ := zA5 X;have Xlt := (ltH X);obtain ⟨Mc0, Mc1, Mc2, Mc3, Mc4, Mc5, Mc6⟩ := zAQ M;have Mlt := (ltH M);go_wp2_with fail
   clear Xc0 Xc1 Xc2 Xc3 Xlt Mc0 Mc1 Mc2 Mc3 Mc4 Mc5 Mc6 Mlt;refine (q.out _).mono ?_;rintro e o ⟨rfl, a⟩;have v : g.heap.size ≤ o.heap.size := a.size;replace B := zAa B a;replace X := zAb a X;replace M := zAb a M;clear a;obtain ⟨Xc0, Xc1, Xc2, Xc3⟩ := zA5 X;have Xlt := (ltH X);obtain ⟨Mc0, Mc1, Mc2, Mc3, Mc4, Mc5, Mc6⟩ := zAQ M;have Mlt := (ltH M);have j : Hid _ := B;clear B X M;go_wp2;go_ret
   exact ⟨rfl, j.out⟩
open Go.ChangeShapes Go.WideShapes Go.ChangeAt Go.RowKit Go.Shelf
attribute [local go_sem] Oper.semAt_some
def zEt (l : Int) (x : zA7) : Bool := x.1.all fun row => row.all (zDY l)
def zDS (s y l : Int) (x : zA7) (m : Nat) : Bool := decide ((x.1.length : Int) = s) && (decide ((m : Int) = y) && zEt l x)
theorem zM3 {l : Int} {x : zA7} {m : Nat} (hm : 0 < m) (hrow : ∀ row ∈ x.1, row.length = m) (h : ∀ j, j < x.1.length * m → zDY l (zBM x m j) = true) : zEt l x = true := by
 refine List.all_eq_true.2 fun row hr => List.all_eq_true.2 fun u hu => ?_;obtain ⟨i, d⟩ := List.getElem?_of_mem hr;obtain ⟨j, f⟩ := List.getElem?_of_mem hu;have hl := hrow row hr;have c := (List.getElem?_eq_some_iff.1 d).1;have p := (List.getElem?_eq_some_iff.1 f).1;have a : j < m := by omega
 have g : (m * i + j) / m = i := by rw [Nat.mul_add_div hm, Nat.div_eq_of_lt a, Nat.add_zero]
 have o : (m * i + j) % m = j := by rw [Nat.mul_add_mod, Nat.mod_eq_of_lt a]
 have b : m * i + j < x.1.length * m := by
  have : m * (i + 1) ≤ m * x.1.length := Nat.mul_le_mul_left m c;rw [Nat.mul_add, Nat.mul_one] at this;rw [Nat.mul_comm x.1.length m];omega
 have q := h _ b;unfold zBM at q;have k : x.1.getD i [] = row := by rw [List.getD_eq_getElem?_getD, d]; rfl
 have n : row.getD j zB0 = u := by rw [List.getD_eq_getElem?_getD, f]; rfl
 rw [g, o, k, n] at q;exact q
theorem zOu {l : Int} {x : zA7} {m k : Nat} (hm : 0 < m) (hrow : ∀ a ∈ x.1, a.length = m) (hk : k < x.1.length * m) (h : zDY l (zBM x m k) = false) : zEt l x = false := by
 obtain ⟨a, c, d⟩ := zFn hm hrow hk;cases q : zEt l x
 ·rfl
 ·have b := List.all_eq_true.1 (List.all_eq_true.1 q a (List.mem_of_getElem? c)) _ (List.mem_of_getElem? d);rw [h] at b;cases b
def FOk (w : World) (Bc : Nat) (cf : Array Value) (v u : Value) (x : zA7) (m : Nat) (l : Int) (k : Nat) (W : World) : Prop :=
 (∀ j, j < k → zDY l (zBM x m j) = true) ∧ W.heap[w.heap.size]? = some (.cells cf 39 (0, 0)) ∧ W.heap[w.heap.size + 1 + 1]? = some (.cells #[.bool false] 4 (0, 0)) ∧ W.heap[Bc]? = some (.cells #[v, u] 92 (0, 0)) ∧ Below w.heap.size w W
theorem zOv {w : World} {Bc : Nat} {cf : Array Value} {v u : Value} {x : zA7} {m B : Nat} {l : Int} (hB : w.heap.size ≤ B) : OwnFrom B (fun k W => FOk w Bc cf v u x m l k W) := by
 rintro k X Y a ⟨i, d, g, j, f⟩ b c;exact ⟨i, zAP (β := Unit) _ _ _ _ () X Y a d b c, zAP (β := Unit) _ _ _ _ () X Y a g b c, zAP (β := Unit) _ _ _ _ () X Y a j b c, ownFrom_below (β := Unit) (Nat.le_refl _) hB () X Y a f b c⟩
theorem zGH {w : World} {Bc : Nat} {cf : Array Value} {v u : Value} {x : zA7} {m k : Nat} {l : Int} {W W' : World} (h : FOk w Bc cf v u x m l k W) (hb : Below W.heap.size W W') : FOk w Bc cf v u x m l k W' := by
 obtain ⟨d, a, c, f, b⟩ := h;exact ⟨d, zAb hb a, zAb hb c, zAb hb f, zAa b hb⟩
theorem zIj (c s y l : Int) (a b : Option Addr) (x : zA7) (cap cp m : Nat) (w : World) (hc : zBe c s y l = 0) (h1 : zA4 zBh w a x.1) (hp : x.1.length = 1 ∨ x.1.length = 2 ∨ x.1.length = 4) (hm : m = 1 ∨ m = 2 ∨ m = 4) (hrow : ∀ aA ∈ x.1, aA.length = m) :
    Calls Tryz.prog 174 #[.agg #[.int .i64 c, .int .i64 s, .int .i64 y, .int .i64 l], .agg #[.slice a x.1.length cap, .slice b x.2.length cp]] w fun e D => e = .returned (.bool (zDS s y l x m)) ∧ Below w.heap.size w D := by
 have v : 0 < m := by omega
 have gB : x.1.length = 1 ∨ x.1.length = 2 ∨ x.1.length = 4 := hp;obtain ⟨f, d, i, rfl, oA, AA⟩ := zJf h1 (fun e => by rw [e] at hp; simp at hp) v hrow;have HG : Hid (∀ k, k < x.1.length * m → ((i (k / m)).way (k % m)).line = (zBM x m k).1 ∧ ((i (k / m)).way (k % m)).state = (zBM x m k).2.1 ∧ ((i (k / m)).way (k % m)).len = (zBM x m k).2.2.length) := fun k U => by
  obtain ⟨aA, e1, e2⟩ := zFn v hrow U;obtain ⟨q1, R, M, q4, q5, q6⟩ := AA _ _ aA _ e1 e2;exact ⟨q1, R, M⟩
 have HP : Hid (x.1.length = 1 ∨ x.1.length = 2 ∨ x.1.length = 4) := hp;have HM : Hid (m = 1 ∨ m = 2 ∨ m = 4) := hm;have HA : Hid _ := oA;have HY : Hid ((∀ j, j < x.1.length * m → zDY l (zBM x m j) = true) → zEt l x = true) := fun h => zM3 v hrow h;have HN : Hid (∀ k, k < x.1.length * m → zDY l (zBM x m k) = false → zEt l x = false) := fun k U h => zOu v hrow U h;have HF : Hid (∀ (u : zC3) (ua : Option Addr) (uc : Nat) (W : World), Calls Tryz.prog 175 #[.agg #[.int .i64 c, .int .i64 s, .int .i64 y, .int .i64 l], .agg #[.int .i64 u.1, .int .i64 u.2.1, .slice ua u.2.2.length uc]] W fun e D => e = .returned (.bool (zDY l u)) ∧ Below W.heap.size W D) := fun u ua uc W => zGG c s y l u ua uc W hc;have bA := (oA 0 (by omega)).1;have CA : Hid (∀ W, Below w.heap.size w W → Calls Tryz.prog 218 #[.agg #[.slice (some ⟨f, d, none⟩) x.1.length cap, .slice b x.2.length cp]] W fun e D => e = .returned (.int .i64 (m : Int)) ∧ Below W.heap.size W D) := fun W hb => zGk f d x.1.length cap _ _ _ _ rfl _ m _ W (by omega) (zAe hb bA (zAk bA));clear h1 AA hrow hp hm oA bA;have B := zAa (zAa (zAf w (.cells #[.int .i64 c, .int .i64 s, .int .i64 y, .int .i64 l] 39)) (zAf _ (.cells #[.slice (some ⟨f, d, none⟩) x.1.length cap, .slice b x.2.length cp] 92))) (zAf _ (.cells #[.bool false] 4));have k0 := zA3 (.cells #[.bool false] 4) (zA3 (.cells #[.slice (some ⟨f, d, none⟩) x.1.length cap, .slice b x.2.length cp] 92) (zAn w (.cells #[.int .i64 c, .int .i64 s, .int .i64 y, .int .i64 l] 39)));have k1 := zA3 (.cells #[.bool false] 4) (zAn (w.alloc (.cells #[.int .i64 c, .int .i64 s, .int .i64 y, .int .i64 l] 39)) (.cells #[.slice (some ⟨f, d, none⟩) x.1.length cap, .slice b x.2.length cp] 92));have T := zAn ((w.alloc (.cells #[.int .i64 c, .int .i64 s, .int .i64 y, .int .i64 l] 39)).alloc (.cells #[.slice (some ⟨f, d, none⟩) x.1.length cap, .slice b x.2.length cp] 92)) (.cells #[.bool false] 4);rw [zAv] at k1;rw [zAv, zAv] at T;have e3 : w.heap.size + 1 + 1 + 1 ≤ (((w.alloc (.cells #[.int .i64 c, .int .i64 s, .int .i64 y, .int .i64 l] 39)).alloc (.cells #[.slice (some ⟨f, d, none⟩) x.1.length cap, .slice b x.2.length cp] 92)).alloc (.cells #[.bool false] 4)).heap.size := by simp
 refine (callsIn_wide (n := 0)).1 ?_;refine callsIn_of_wp_marks Tryz.func174 rfl trivial ?_ rfl;simp only [Tryz.ntmps174, List.size_toArray, List.length_cons, List.length_nil, Nat.reduceAdd, Nat.reduceSub, Array.replicate_succ, Array.replicate_zero, List.push_toArray, List.append_toArray, List.nil_append, List.cons_append];gi_wp2
 generalize (((w.alloc (.cells #[.int .i64 c, .int .i64 s, .int .i64 y, .int .i64 l] 39)).alloc (.cells #[.slice (some ⟨f, d, none⟩) x.1.length cap, .slice b x.2.length cp] 92)).alloc (.cells #[.bool false] 4)) = W3 at B k0 k1 T e3 ⊢;obtain ⟨G, J, F, I⟩ := zA5 k0;obtain ⟨O, L⟩ := zAK k1;by_cases hs : (x.1.length : Int) = s
 ·subst hs;have z1 : ((x.1.length : Int) != (x.1.length : Int)) = false := by simp
  by_cases hy : (m : Int) = y
  ·subst hy;have z2 : ((m : Int) != (m : Int)) = false := by simp
   have kA : ∀ n' : Cls (fun wx => Below W3.heap.size W3 wx), n'.w.cell? ⟨w.heap.size, 0, none⟩ = some (.int .i64 c) := fun n' => zAe n'.h G (zAk G);have eA : ∀ n' : Cls (fun wx => Below W3.heap.size W3 wx), n'.w.cell? ⟨w.heap.size, 1, none⟩ = some (.int .i64 (x.1.length : Int)) := fun n' => zAe n'.h J (zAk J);have cA : ∀ n' : Cls (fun wx => Below W3.heap.size W3 wx), n'.w.cell? ⟨w.heap.size, 2, none⟩ = some (.int .i64 (m : Int)) := fun n' => zAe n'.h F (zAk F);have fA : ∀ n' : Cls (fun wx => Below W3.heap.size W3 wx), n'.w.cell? ⟨w.heap.size, 3, none⟩ = some (.int .i64 l) := fun n' => zAe n'.h I (zAk I);have iA : ∀ n' : Cls (fun wx => Below W3.heap.size W3 wx), n'.w.cell? ⟨w.heap.size + 1, 0, none⟩ = some (.slice (some ⟨f, d, none⟩) x.1.length cap) := fun n' => zAe n'.h O (zAk O);have pA : ∀ n' : Cls (fun wx => Below W3.heap.size W3 wx), n'.w.cell? ⟨w.heap.size + 1, 1, none⟩ = some (.slice b x.2.length cp) := fun n' => zAe n'.h L (zAk L);have C : Hid (∀ n' : Cls (fun wx => Below W3.heap.size W3 wx), _) := fun n' => CA.out n'.w (zAa B n'.h);refine wpIn_wide.2 ?_;refine zAz (fun wx => Below W3.heap.size W3 wx) (by kernel_rfl) (by kernel_rfl) ((Below.refl _ W3).drew) ?_;intro mA;repeat (quiet_step (first | (go_at_call 218; exact zAj (C.out _) (fun D hc bb => zAa hc bb))))
   refine wpQuiet_nil ?_;intro q r;clear mA C kA eA cA fA iA pA G J F I O L;replace k0 := zAb r k0;replace k1 := zAb r k1;replace T := zAb r T;replace B := zAa B r;replace e3 := Nat.le_trans e3 r.size;clear r;obtain ⟨O, L⟩ := zAK k1;gi_wp2
   refine ⟨trivial, rfl, (callsIn_wide.2 (zFK _ _ _ _ _ _ _ _ rfl rfl _)).mono ?_⟩;rintro e D ⟨rfl, rfl⟩;gi_wp2
   have bz := zAf q (.cells #[.slice (some ⟨f, d, none⟩) x.1.length cap, .slice b x.2.length cp] 92);have kc := zAn q (.cells #[.slice (some ⟨f, d, none⟩) x.1.length cap, .slice b x.2.length cp] 92);have e4 : (q.alloc (.cells #[.slice (some ⟨f, d, none⟩) x.1.length cap, .slice b x.2.length cp] 92)).heap.size = q.heap.size + 1 := by simp
   have dA : FOk w q.heap.size #[.int .i64 c, .int .i64 (x.1.length : Int), .int .i64 (m : Int), .int .i64 l] (.slice (some ⟨f, d, none⟩) x.1.length cap) (.slice b x.2.length cp) x m l 0 (q.alloc (.cells #[.slice (some ⟨f, d, none⟩) x.1.length cap, .slice b x.2.length cp] 92)) := ⟨fun j hj => by omega, zAb bz k0, zAb bz T, kc, zAa B bz⟩;clear k0 k1 T kc bz B O L;generalize q.alloc (.cells #[.slice (some ⟨f, d, none⟩) x.1.length cap, .slice b x.2.length cp] 92) = W0 at e4 dA ⊢;generalize q.heap.size = Bc at e3 e4 dA ⊢;refine zE5 (N := x.1.length * m) (lb := #[.pointer (some ⟨Bc, 0, none⟩)]) (gf := 253) rfl (enters_of Tryz.func253 (by kernel_rfl) rfl)
    (zEG Bc f d x.1.length m cap i (by have := HP.out; omega) (by have := HM.out; omega) (by have := HP.out; omega) v) (fun _ => rfl)
    (fun k W => FOk w Bc #[.int .i64 c, .int .i64 (x.1.length : Int), .int .i64 (m : Int), .int .i64 l] (.slice (some ⟨f, d, none⟩) x.1.length cap) (.slice b x.2.length cp) x m l k W)
    (fun z k W => z = .ret ∧ zEt l x = false ∧ W.heap[w.heap.size + 1 + 1]? = some (.cells #[.bool false] 4 (0, 0)) ∧ Below w.heap.size w W)
    (zOv (by omega)) (fun z => OwnFrom.and (ownFrom_pure _ _) (OwnFrom.and (ownFrom_pure _ _) (OwnFrom.and (zAP _ _ _ _) (ownFrom_below (Nat.le_refl _) (by omega))))) ?hR dA
    (fun k a' W => ∃ B6, W0.heap.size < B6 ∧ W.heap[B6]? = some (.cells #[.int .i64 ((i (k / m)).way (k % m)).line, .int .i64 ((i (k / m)).way (k % m)).state, .slice ((i (k / m)).way (k % m)).addr ((i (k / m)).way (k % m)).len ((i (k / m)).way (k % m)).cap] 88 (0, 0)) ∧ FOk w Bc #[.int .i64 c, .int .i64 (x.1.length : Int), .int .i64 (m : Int), .int .i64 l] (.slice (some ⟨f, d, none⟩) x.1.length cap) (.slice b x.2.length cp) x m l k W ∧
     a' = { tmps := #[.agg #[.int .i64 c, .int .i64 (x.1.length : Int), .int .i64 (m : Int), .int .i64 l], .agg #[.slice (some ⟨f, d, none⟩) x.1.length cap, .slice b x.2.length cp], .pointer (some ⟨w.heap.size, 0, none⟩), .pointer (some ⟨w.heap.size + 1, 0, none⟩), .pointer (some ⟨w.heap.size + 1 + 1, 0, none⟩), undef, .pointer (some ⟨B6, 0, none⟩), .pointer (some ⟨w.heap.size + 1, 0, none⟩), .slice (some ⟨f, d, none⟩) x.1.length cap, .int .i64 (x.1.length : Int), .pointer (some ⟨w.heap.size, 1, none⟩), .int .i64 (x.1.length : Int), .bool false, .bool false, .agg #[.slice (some ⟨f, d, none⟩) x.1.length cap, .slice b x.2.length cp], .int .i64 (m : Int), .pointer (some ⟨w.heap.size, 2, none⟩), .int .i64 (m : Int), .bool false, .bool false, .agg #[.slice (some ⟨f, d, none⟩) x.1.length cap, .slice b x.2.length cp], .func (.func 253) #[] #[.pointer (some ⟨Bc, 0, none⟩)], .agg #[.int .i64 (k / m : Nat), .int .i64 (k % m : Nat)], ((i (k / m)).way (k % m)).agg, undef, undef, undef, undef], defers := [] })
    ?hA ?hassign ?hbody ?hdone ?hstop
   case hR =>
    rintro k W ⟨_, _, _, g3, g4⟩;exact ⟨by rw [cell_of_row W _ 0 _ _ (0, 0) g3]; rfl, zFJ HA.out g4 v⟩
   case hA =>
    rintro k a' ⟨⟩ X Y V ⟨B6, l6, g6, A, rfl⟩ hg hr;exact ⟨B6, l6, zAP (β := Unit) _ _ _ _ () X Y V g6 hg hr, zOv (B := W0.heap.size) (by omega) k X Y V A hg hr, rfl⟩
   case hassign =>
    rintro k W K U A RA hK;gi_wp2
    have z1 := zAf W (.cells #[.int .i64 ((i (k / m)).way (k % m)).line, .int .i64 ((i (k / m)).way (k % m)).state, .slice ((i (k / m)).way (k % m)).addr ((i (k / m)).way (k % m)).len ((i (k / m)).way (k % m)).cap] 88);exact hK _ _ (Kept.below z1) ⟨W.heap.size, by omega, zAn _ _, zGH A z1, rfl⟩
   case hbody =>
    rintro k a' V1 U ⟨B6, l6, g6, A, rfl⟩ RA hD hL;obtain ⟨q1, R, M⟩ := HG.out k U;rw [q1, R, M] at g6;have DA : ((i (k / m)).way (k % m)).agg = .agg #[.int .i64 (zBM x m k).1, .int .i64 (zBM x m k).2.1, .slice ((i (k / m)).way (k % m)).addr (zBM x m k).2.2.length ((i (k / m)).way (k % m)).cap] := by rw [WCells.agg, q1, R, M]
    rw [DA];clear DA q1 R M;generalize ((i (k / m)).way (k % m)).addr = ad at g6 ⊢;generalize ((i (k / m)).way (k % m)).cap = cpw at g6 ⊢;have HE : Hid (∀ W, Calls Tryz.prog 175 #[.agg #[.int .i64 c, .int .i64 (x.1.length : Int), .int .i64 (m : Int), .int .i64 l], .agg #[.int .i64 (zBM x m k).1, .int .i64 (zBM x m k).2.1, .slice ad (zBM x m k).2.2.length cpw]] W fun e D => e = .returned (.bool (zDY l (zBM x m k))) ∧ Below W.heap.size W D) := fun W => HF.out (zBM x m k) ad cpw W;obtain ⟨x0, x1, x2⟩ := zAJ g6;obtain ⟨G, J, F, I⟩ := zA5 A.2.1;cases E : zDY l (zBM x m k)
    ·rw [E] at HE;have NA : Hid (zEt l x = false) := HN.out k U E;gi_wp2
     refine ⟨trivial, rfl, (CallsIn.inRound _ (callsIn_wide.2 (HE.out _))).mono ?_⟩;rintro e Z ⟨rfl, b1⟩;obtain ⟨A, g1, H, g3, g4⟩ := zGH A b1;have r2 : Z.cell? ⟨w.heap.size + 1 + 1, 0, none⟩ = some (.bool false) := by rw [cell_of_row Z _ 0 _ _ (0, 0) H]; rfl
     have r3 : Z.frozen? ⟨w.heap.size + 1 + 1, 0, none⟩ = false := frozen_of_row Z _ 0 _ _ H;clear x0 x1 x2 G J F I;gi_wp2
     refine ⟨Kept.trans (Kept.below b1) (Kept.chg (S := fun j => j = w.heap.size + 1 + 1) (zDs (grownBy_setCell' Z (w.heap.size + 1 + 1) _) rfl) (fun j e => by omega)), rfl, NA.out, heap_setCell_same Z (w.heap.size + 1 + 1) 0 _ _ (.bool false) H, g4.setCell (p := ⟨w.heap.size + 1 + 1, 0, none⟩) (by simp; omega) _⟩
    ·rw [E] at HE;gi_wp2
     refine ⟨trivial, rfl, (CallsIn.inRound _ (callsIn_wide.2 (HE.out _))).mono ?_⟩;rintro e Z ⟨rfl, b1⟩;obtain ⟨A, g1, H, g3, g4⟩ := zGH A b1;clear x0 x1 x2 G J F I;gi_wp2
     refine ⟨Kept.below b1, fun j hj => ?_, g1, H, g3, g4⟩;by_cases he : j < k
     ·exact A j he
     ·have : j = k := by omega
      subst this;exact E
   case hdone =>
    rintro W ⟨A, g1, H, g3, g4⟩ hK;have R : W.cell? ⟨w.heap.size + 1 + 1, 0, none⟩ = some (.bool false) := by rw [cell_of_row W _ 0 _ _ (0, 0) H]; rfl
    have M : W.frozen? ⟨w.heap.size + 1 + 1, 0, none⟩ = false := frozen_of_row W _ 0 _ _ H;gi_wp2
    have g8 := heap_setCell_same W (w.heap.size + 1 + 1) 0 _ _ (.bool true) H;have BA : (W.setCell ⟨w.heap.size + 1 + 1, 0, none⟩ (.bool true)).heap[W0.heap.size]? = some (.deferred (some [])) := (heap_setCell_other W ⟨w.heap.size + 1 + 1, 0, none⟩ _ _ (by simp; omega)).trans hK;refine ⟨by simp, .inl ⟨_, _, rfl, run_takeDeferred BA, ?_⟩⟩;have g9 := (World.putObj_heap_other (o := .deferred none) (show w.heap.size + 1 + 1 ≠ W0.heap.size by omega)).trans g8;have g := cell_of_row _ _ 0 _ _ (0, 0) g9;refine ⟨.bool true, ?_, zAl (by unfold zDS; rw [HY.out A]; simp), (g4.setCell (p := ⟨w.heap.size + 1 + 1, 0, none⟩) (by simp; omega) _).trans ((Below.refl _ _).grown (grownBy_putObj' _ _ _) (by have := (ltH BA); omega) (fun k e => by cases e; omega))⟩;simp at g
    simp [results, Tryz.results174, go_sem, g]
   case hstop =>
    rintro z k W U ⟨rfl, hf, g5, g7⟩ hK;gi_wp2
    refine ⟨by simp, .inl ⟨_, _, rfl, run_takeDeferred hK, ?_⟩⟩;have g9 := (World.putObj_heap_other (o := .deferred none) (show w.heap.size + 1 + 1 ≠ W0.heap.size by omega)).trans g5;have g := cell_of_row _ _ 0 _ _ (0, 0) g9;refine ⟨.bool false, ?_, zAl (by unfold zDS; rw [hf]; simp), g7.trans ((Below.refl _ _).grown (grownBy_putObj' _ _ _) (by have := (ltH hK); omega) (fun k e => by cases e; omega))⟩;simp at g
    simp [results, Tryz.results174, go_sem, g]
  ·have z2 : ((m : Int) != y) = true := by simp [hy]
   have kA : ∀ n' : Cls (fun wx => Below W3.heap.size W3 wx), n'.w.cell? ⟨w.heap.size, 0, none⟩ = some (.int .i64 c) := fun n' => zAe n'.h G (zAk G);have eA : ∀ n' : Cls (fun wx => Below W3.heap.size W3 wx), n'.w.cell? ⟨w.heap.size, 1, none⟩ = some (.int .i64 (x.1.length : Int)) := fun n' => zAe n'.h J (zAk J);have cA : ∀ n' : Cls (fun wx => Below W3.heap.size W3 wx), n'.w.cell? ⟨w.heap.size, 2, none⟩ = some (.int .i64 y) := fun n' => zAe n'.h F (zAk F);have fA : ∀ n' : Cls (fun wx => Below W3.heap.size W3 wx), n'.w.cell? ⟨w.heap.size, 3, none⟩ = some (.int .i64 l) := fun n' => zAe n'.h I (zAk I);have iA : ∀ n' : Cls (fun wx => Below W3.heap.size W3 wx), n'.w.cell? ⟨w.heap.size + 1, 0, none⟩ = some (.slice (some ⟨f, d, none⟩) x.1.length cap) := fun n' => zAe n'.h O (zAk O);have pA : ∀ n' : Cls (fun wx => Below W3.heap.size W3 wx), n'.w.cell? ⟨w.heap.size + 1, 1, none⟩ = some (.slice b x.2.length cp) := fun n' => zAe n'.h L (zAk L);have C : Hid (∀ n' : Cls (fun wx => Below W3.heap.size W3 wx), _) := fun n' => CA.out n'.w (zAa B n'.h);refine wpIn_wide.2 ?_;refine zAz (fun wx => Below W3.heap.size W3 wx) (by kernel_rfl) (by kernel_rfl) ((Below.refl _ W3).drew) ?_;intro mA;repeat (quiet_step (first | (go_at_call 218; exact zAj (C.out _) (fun D hc bb => zAa hc bb))))
   refine wpQuiet_nil ?_;intro q r;clear mA C kA eA cA fA iA pA G J F I O L z2;have HH := hy;clear hy;have j2 := zAb r T;have R : q.cell? ⟨w.heap.size + 1 + 1, 0, none⟩ = some (.bool false) := by rw [cell_of_row q _ 0 _ _ (0, 0) j2]; rfl
   have M : q.frozen? ⟨w.heap.size + 1 + 1, 0, none⟩ = false := frozen_of_row q _ 0 _ _ j2;have BB := zAa B r;gi_wp2
   have g9 := heap_setCell_same q (w.heap.size + 1 + 1) 0 _ _ (.bool false) j2;have g := cell_of_row _ _ 0 _ _ (0, 0) g9;refine ⟨.bool false, ?_, zAl (by unfold zDS; simp [HH]), BB.setCell (p := ⟨w.heap.size + 1 + 1, 0, none⟩) (by simp; omega) _⟩;simp at g
   simp [results, Tryz.results174, go_sem, g]
 ·have z1 : ((x.1.length : Int) != s) = true := by simp [hs]
  refine wpIn_wide.2 ?_;go_quiet (fail)
  have HH := hs;clear hs;have r : Below W3.heap.size W3 (W3.drewN nq) := zCG (Below.refl _ _) nq;generalize W3.drewN nq = q at r ⊢;have j2 := zAb r T;have R : q.cell? ⟨w.heap.size + 1 + 1, 0, none⟩ = some (.bool false) := by rw [cell_of_row q _ 0 _ _ (0, 0) j2]; rfl
  have M : q.frozen? ⟨w.heap.size + 1 + 1, 0, none⟩ = false := frozen_of_row q _ 0 _ _ j2;have BB := zAa B r;gi_wp2
  have g9 := heap_setCell_same q (w.heap.size + 1 + 1) 0 _ _ (.bool false) j2;have g := cell_of_row _ _ 0 _ _ (0, 0) g9;refine ⟨.bool false, ?_, zAl (by unfold zDS; simp [HH]), BB.setCell (p := ⟨w.heap.size + 1 + 1, 0, none⟩) (by simp; omega) _⟩;simp at g
  simp [results, Tryz.results174, go_sem, g]
end Go.Proofs.YtcocbafhcpdheaaGreatDoor
