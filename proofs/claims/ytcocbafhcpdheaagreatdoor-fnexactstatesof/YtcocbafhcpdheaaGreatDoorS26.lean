import Derived.Test.YtcocbafhcpdheaaGreatDoorS00Box
import Derived.Test.YtcocbafhcpdheaaGreatDoorS25
namespace Go.Proofs.YtcocbafhcpdheaaGreatDoor
set_option maxHeartbeats 4000000
set_option maxRecDepth 20000
open Go.ChangeShapes Go.WideShapes Go.ChangeAt Go.RowKit
set_option linter.unusedVariables false
theorem code_cores {c s y l : Int} (h : codeI c s y l = 0) : (1 ≤ c ∧ c ≤ 4) ∧ (1 ≤ l ∧ l ≤ 16) := by
 have a := code_zero h;refine ⟨?_, a.1⟩;unfold codeI at h;split at h
 ·rename_i q; simpa [betw] using q
 ·cases h
def coreIn (c k : Int) : Bool := betw k 0 (c - 1)
def agentIn (c k : Int) : Bool := decide (k = 4) || (decide (k = 5) || coreIn c k)
def lineIn (l k : Int) : Bool := betw k 0 (l - 1)
def wayIn (l : Int) (u : WayD) : Bool := decide (u.1 = -1) || lineIn l u.1
def msgIn (c l : Int) (m : MsgD) : Bool := agentIn c m.2.1 && (agentIn c m.2.2.1 && lineIn l m.2.2.2.2.1)
theorem line_in {c s y l k : Int} (h : codeI c s y l = 0) : lineB c s y l k = lineIn l k := lineB_eq h
theorem hasCore_any (c s y l k : Int) (w : World) (hc : codeI c s y l = 0) :
    Calls Tryz.prog 169 #[.agg #[.int .i64 c, .int .i64 s, .int .i64 y, .int .i64 l], .int .i64 k] w fun e w' => e = .returned (.bool (coreIn c k)) ∧ Below w.heap.size w w' := by
 have i := (code_cores hc).1;have hw : IntKind.i64.wrap (c - 1) = c - 1 := by rw [IntKind.wrap_i64]; omega
 have b : Hid (∀ W, Calls Tryz.prog 76 #[.int .i64 k, .int .i64 0, .int .i64 (c - 1)] W fun e w' => e = .returned (.bool (coreIn c k)) ∧ Below W.heap.size W w') := fun W => (between_any k 0 (c - 1) W).mono fun e w' ⟨q, r⟩ => ⟨q, be_eq r⟩;generalize coreIn c k = q at b ⊢;clear hc i;have B := Below.refl w.heap.size w;go_enter Tryz.func169, Tryz.ntmps169;go_upto_region 1 with fail
 generalize a : w.alloc _ = u1w;have X := boxH a;have j := boxB a;have g := boxL a;clear a;replace B := below_step B j;clear j;have n := Nat.le_of_eq g;have o := Nat.le_of_eq g.symm;clear g;obtain ⟨Xc0, Xc1, Xc2, Xc3⟩ := cells_4 X;have Xlt := (ltH X);go_wp2_with fail
 clear Xc0 Xc1 Xc2 Xc3 Xlt;refine (b.out _).mono ?_;rintro e f ⟨rfl, d⟩;have m : u1w.heap.size ≤ f.heap.size := d.size;replace B := below_step B d;replace X := row_keep d X;clear d;obtain ⟨Xc0, Xc1, Xc2, Xc3⟩ := cells_4 X;have Xlt := (ltH X);have p : Hid _ := B;clear B X;go_wp2;go_ret
 exact ⟨rfl, p.out⟩
theorem hasAgent_any (c s y l k : Int) (w : World) (hc : codeI c s y l = 0) :
    Calls Tryz.prog 165 #[.agg #[.int .i64 c, .int .i64 s, .int .i64 y, .int .i64 l], .int .i64 k] w fun e w' => e = .returned (.bool (agentIn c k)) ∧ Below w.heap.size w w' := by
 have n : Hid (∀ W, Calls Tryz.prog 169 #[.agg #[.int .i64 c, .int .i64 s, .int .i64 y, .int .i64 l], .int .i64 k] W fun e w' => e = .returned (.bool (coreIn c k)) ∧ Below W.heap.size W w') := fun W => hasCore_any c s y l k W hc;unfold agentIn;generalize coreIn c k = q at n ⊢;clear hc;by_cases f : k = 4
 ·have z : (k == 4) = true := by simp [f]
  rw [show (decide (k = 4) || (decide (k = 5) || q)) = true from by simp [f]];clear f;have B := Below.refl w.heap.size w;go_enter Tryz.func165, Tryz.ntmps165;go_upto_region 1 with fail
  generalize a : w.alloc _ = u1w;have X := boxH a;have d := boxB a;have b := boxL a;clear a;replace B := below_step B d;clear d;have i := Nat.le_of_eq b;have j := Nat.le_of_eq b.symm;clear b;obtain ⟨Xc0, Xc1, Xc2, Xc3⟩ := cells_4 X;have Xlt := (ltH X);have m : Hid _ := B;clear B X;go_wp2;go_ret
  exact ⟨rfl, m.out⟩
 ·have z : (k == 4) = false := by simp [f]
  by_cases g : k = 5
  ·have v : (k == 5) = true := by simp [g]
   rw [show (decide (k = 4) || (decide (k = 5) || q)) = true from by simp [g]];clear f g;have B := Below.refl w.heap.size w;go_enter Tryz.func165, Tryz.ntmps165;go_upto_region 1 with fail
   generalize a : w.alloc _ = u1w;have X := boxH a;have d := boxB a;have b := boxL a;clear a;replace B := below_step B d;clear d;have i := Nat.le_of_eq b;have j := Nat.le_of_eq b.symm;clear b;obtain ⟨Xc0, Xc1, Xc2, Xc3⟩ := cells_4 X;have Xlt := (ltH X);have m : Hid _ := B;clear B X;go_wp2;go_ret
   exact ⟨rfl, m.out⟩
  ·have v : (k == 5) = false := by simp [g]
   rw [show (decide (k = 4) || (decide (k = 5) || q)) = q from by simp [f, g]];clear f g;have B := Below.refl w.heap.size w;go_enter Tryz.func165, Tryz.ntmps165;go_upto_region 1 with fail
   generalize a : w.alloc _ = u1w;have X := boxH a;have d := boxB a;have b := boxL a;clear a;replace B := below_step B d;clear d;have i := Nat.le_of_eq b;have j := Nat.le_of_eq b.symm;clear b;obtain ⟨Xc0, Xc1, Xc2, Xc3⟩ := cells_4 X;have Xlt := (ltH X);go_wp2_with fail
   clear Xc0 Xc1 Xc2 Xc3 Xlt;refine (n.out _).mono ?_;rintro e p ⟨rfl, o⟩;have r : u1w.heap.size ≤ p.heap.size := o.size;replace B := below_step B o;replace X := row_keep o X;clear o;obtain ⟨Xc0, Xc1, Xc2, Xc3⟩ := cells_4 X;have Xlt := (ltH X);have m : Hid _ := B;clear B X;go_wp2;go_ret
   exact ⟨rfl, m.out⟩
theorem fitsWay_any (c s y l : Int) (u : WayD) (ua : Option Addr) (uc : Nat) (w : World) (hc : codeI c s y l = 0) :
    Calls Tryz.prog 175 #[.agg #[.int .i64 c, .int .i64 s, .int .i64 y, .int .i64 l], .agg #[.int .i64 u.1, .int .i64 u.2.1, .slice ua u.2.2.length uc]] w fun e w' => e = .returned (.bool (wayIn l u)) ∧ Below w.heap.size w w' := by
 have j : Hid (∀ W, Calls Tryz.prog 36 #[.agg #[.int .i64 c, .int .i64 s, .int .i64 y, .int .i64 l], .int .i64 u.1] W fun e w' => e = .returned (.bool (lineIn l u.1)) ∧ Below W.heap.size W w') := fun W => by rw [← line_in hc]; exact hasLine_any c s y l u.1 W
 unfold wayIn;generalize lineIn l u.1 = q at j ⊢;clear hc;by_cases i : u.1 = -1
 ·have A : (u.1 == -1) = true := by simp [i]
  rw [show (decide (u.1 = -1) || q) = true from by simp [i]];clear i;have B := Below.refl w.heap.size w;go_enter Tryz.func175, Tryz.ntmps175;go_upto_region 1 with fail
  generalize b : w.alloc _ = u1w;have X := boxH b;have d := boxB b;have g := boxL b;clear b;replace B := below_step B d;clear d;have n := Nat.le_of_eq g;have p := Nat.le_of_eq g.symm;clear g;generalize a : u1w.alloc _ = u2w;have V := boxH a;have d := boxB a;have f := boxL a;clear a;rw [show u1w.heap.size = w.heap.size + 1 from by omega] at V;replace B := below_step B d;replace X := row_keep d X;clear d;have r := Nat.le_of_eq f;have o := Nat.le_of_eq f.symm;clear f;obtain ⟨Xc0, Xc1, Xc2, Xc3⟩ := cells_4 X;have Xlt := (ltH X);obtain ⟨Vc0, Vc1, Vc2⟩ := cells_3 V;have Vlt := (ltH V);have v : Hid _ := B;clear B X V;go_wp2;go_ret
  exact ⟨rfl, v.out⟩
 ·have A : (u.1 == -1) = false := by simp [i]
  rw [show (decide (u.1 = -1) || q) = q from by simp [i]];clear i;have B := Below.refl w.heap.size w;go_enter Tryz.func175, Tryz.ntmps175;go_upto_region 1 with fail
  generalize b : w.alloc _ = u1w;have X := boxH b;have d := boxB b;have g := boxL b;clear b;replace B := below_step B d;clear d;have n := Nat.le_of_eq g;have p := Nat.le_of_eq g.symm;clear g;generalize a : u1w.alloc _ = u2w;have V := boxH a;have d := boxB a;have f := boxL a;clear a;rw [show u1w.heap.size = w.heap.size + 1 from by omega] at V;replace B := below_step B d;replace X := row_keep d X;clear d;have r := Nat.le_of_eq f;have o := Nat.le_of_eq f.symm;clear f;obtain ⟨Xc0, Xc1, Xc2, Xc3⟩ := cells_4 X;have Xlt := (ltH X);obtain ⟨Vc0, Vc1, Vc2⟩ := cells_3 V;have Vlt := (ltH V);go_wp2_with fail
  clear Xc0 Xc1 Xc2 Xc3 Xlt Vc0 Vc1 Vc2 Vlt;refine (j.out _).mono ?_;rintro e m ⟨rfl, k⟩;have z : u2w.heap.size ≤ m.heap.size := k.size;replace B := below_step B k;replace X := row_keep k X;replace V := row_keep k V;clear k;obtain ⟨Xc0, Xc1, Xc2, Xc3⟩ := cells_4 X;have Xlt := (ltH X);obtain ⟨Vc0, Vc1, Vc2⟩ := cells_3 V;have Vlt := (ltH V);have v : Hid _ := B;clear B X V;go_wp2;go_ret
  exact ⟨rfl, v.out⟩
theorem fitsLetter_any (c s y l : Int) (m : MsgD) (ma : Option Addr) (mc : Nat) (w : World) (hc : codeI c s y l = 0) :
    Calls Tryz.prog 129 #[.agg #[.int .i64 c, .int .i64 s, .int .i64 y, .int .i64 l], .agg #[.int .i64 m.1, .int .i64 m.2.1, .int .i64 m.2.2.1, .int .i64 m.2.2.2.1, .int .i64 m.2.2.2.2.1, .slice ma m.2.2.2.2.2.1.length mc, .int .i64 m.2.2.2.2.2.2]] w fun e w' => e = .returned (.bool (msgIn c l m)) ∧ Below w.heap.size w w' := by
 have q : Hid (∀ W, Calls Tryz.prog 165 #[.agg #[.int .i64 c, .int .i64 s, .int .i64 y, .int .i64 l], .int .i64 m.2.1] W fun e w' => e = .returned (.bool (agentIn c m.2.1)) ∧ Below W.heap.size W w') := fun W => hasAgent_any c s y l m.2.1 W hc;have r : Hid (∀ W, Calls Tryz.prog 165 #[.agg #[.int .i64 c, .int .i64 s, .int .i64 y, .int .i64 l], .int .i64 m.2.2.1] W fun e w' => e = .returned (.bool (agentIn c m.2.2.1)) ∧ Below W.heap.size W w') := fun W => hasAgent_any c s y l m.2.2.1 W hc;have A : Hid (∀ W, Calls Tryz.prog 36 #[.agg #[.int .i64 c, .int .i64 s, .int .i64 y, .int .i64 l], .int .i64 m.2.2.2.2.1] W fun e w' => e = .returned (.bool (lineIn l m.2.2.2.2.1)) ∧ Below W.heap.size W w') := fun W => by rw [← line_in hc]; exact hasLine_any c s y l m.2.2.2.2.1 W
 unfold msgIn;generalize agentIn c m.2.1 = q1 at q ⊢;generalize agentIn c m.2.2.1 = q2 at r ⊢;generalize lineIn l m.2.2.2.2.1 = q3 at A ⊢;clear hc;have B := Below.refl w.heap.size w;go_enter Tryz.func129, Tryz.ntmps129;go_upto_region 1 with fail
 generalize d : w.alloc _ = u1w;have X := boxH d;have f := boxB d;have n := boxL d;clear d;replace B := below_step B f;clear f;have C := Nat.le_of_eq n;have D := Nat.le_of_eq n.symm;clear n;generalize b : u1w.alloc _ = u2w;have M := boxH b;have f := boxB b;have k := boxL b;clear b;rw [show u1w.heap.size = w.heap.size + 1 from by omega] at M;replace B := below_step B f;replace X := row_keep f X;clear f;have F := Nat.le_of_eq k;have E := Nat.le_of_eq k.symm;clear k;obtain ⟨Xc0, Xc1, Xc2, Xc3⟩ := cells_4 X;have Xlt := (ltH X);obtain ⟨Mc0, Mc1, Mc2, Mc3, Mc4, Mc5, Mc6⟩ := cells_7 M;have Mlt := (ltH M);go_wp2_with fail
 clear Xc0 Xc1 Xc2 Xc3 Xlt Mc0 Mc1 Mc2 Mc3 Mc4 Mc5 Mc6 Mlt;refine (q.out _).mono ?_;rintro e g ⟨rfl, a⟩;have p : u2w.heap.size ≤ g.heap.size := a.size;replace B := below_step B a;replace X := row_keep a X;replace M := row_keep a M;clear a;cases q1
 ·skip
  obtain ⟨Xc0, Xc1, Xc2, Xc3⟩ := cells_4 X;have Xlt := (ltH X);obtain ⟨Mc0, Mc1, Mc2, Mc3, Mc4, Mc5, Mc6⟩ := cells_7 M;have Mlt := (ltH M);have i : Hid _ := B;clear B X M;go_wp2;go_ret
  exact ⟨rfl, i.out⟩
 ·skip
  obtain ⟨Xc0, Xc1, Xc2, Xc3⟩ := cells_4 X;have Xlt := (ltH X);obtain ⟨Mc0, Mc1, Mc2, Mc3, Mc4, Mc5, Mc6⟩ := cells_7 M;have Mlt := (ltH M);go_wp2_with fail
  clear Xc0 Xc1 Xc2 Xc3 Xlt Mc0 Mc1 Mc2 Mc3 Mc4 Mc5 Mc6 Mlt;refine (r.out _).mono ?_;rintro e j ⟨rfl, a⟩;have z : g.heap.size ≤ j.heap.size := a.size;replace B := below_step B a;replace X := row_keep a X;replace M := row_keep a M;clear a;cases q2
  ·skip
   obtain ⟨Xc0, Xc1, Xc2, Xc3⟩ := cells_4 X;have Xlt := (ltH X);obtain ⟨Mc0, Mc1, Mc2, Mc3, Mc4, Mc5, Mc6⟩ := cells_7 M;have Mlt := (ltH M);have i : Hid _ := B;clear B X M;go_wp2;go_ret
   exact ⟨rfl, i.out⟩
  ·skip
   obtain ⟨Xc0, Xc1, Xc2, Xc3⟩ := cells_4 X;have Xlt := (ltH X);obtain ⟨Mc0, Mc1, Mc2, Mc3, Mc4, Mc5, Mc6⟩ := cells_7 M;have Mlt := (ltH M);go_wp2_with fail
   clear Xc0 Xc1 Xc2 Xc3 Xlt Mc0 Mc1 Mc2 Mc3 Mc4 Mc5 Mc6 Mlt;refine (A.out _).mono ?_;rintro e o ⟨rfl, a⟩;have v : j.heap.size ≤ o.heap.size := a.size;replace B := below_step B a;replace X := row_keep a X;replace M := row_keep a M;clear a;obtain ⟨Xc0, Xc1, Xc2, Xc3⟩ := cells_4 X;have Xlt := (ltH X);obtain ⟨Mc0, Mc1, Mc2, Mc3, Mc4, Mc5, Mc6⟩ := cells_7 M;have Mlt := (ltH M);have i : Hid _ := B;clear B X M;go_wp2;go_ret
   exact ⟨rfl, i.out⟩
open Go.ChangeShapes Go.WideShapes Go.ChangeAt Go.RowKit Go.Shelf
attribute [local go_sem] Oper.semAt_some
def waysIn (l : Int) (x : CacheD) : Bool := x.1.all fun row => row.all (wayIn l)
def cacheIn (s y l : Int) (x : CacheD) (m : Nat) : Bool := decide ((x.1.length : Int) = s) && (decide ((m : Int) = y) && waysIn l x)
theorem waysIn_yes {l : Int} {x : CacheD} {m : Nat} (hm : 0 < m) (hrow : ∀ row ∈ x.1, row.length = m) (h : ∀ j, j < x.1.length * m → wayIn l (wayK x m j) = true) : waysIn l x = true := by
 refine List.all_eq_true.2 fun row hr => List.all_eq_true.2 fun u hu => ?_;obtain ⟨i, f⟩ := List.getElem?_of_mem hr;obtain ⟨j, d⟩ := List.getElem?_of_mem hu;have hl := hrow row hr;have b := (List.getElem?_eq_some_iff.1 f).1;have p := (List.getElem?_eq_some_iff.1 d).1;have a : j < m := by omega
 have g : (m * i + j) / m = i := by rw [Nat.mul_add_div hm, Nat.div_eq_of_lt a, Nat.add_zero]
 have n : (m * i + j) % m = j := by rw [Nat.mul_add_mod, Nat.mod_eq_of_lt a]
 have c : m * i + j < x.1.length * m := by
  have : m * (i + 1) ≤ m * x.1.length := Nat.mul_le_mul_left m b;rw [Nat.mul_add, Nat.mul_one] at this;rw [Nat.mul_comm x.1.length m];omega
 have q := h _ c;unfold wayK at q;have k : x.1.getD i [] = row := by rw [List.getD_eq_getElem?_getD, f]; rfl
 have o : row.getD j emptyW = u := by rw [List.getD_eq_getElem?_getD, d]; rfl
 rw [g, n, k, o] at q;exact q
theorem waysIn_no {l : Int} {x : CacheD} {m k : Nat} (hm : 0 < m) (hrow : ∀ a ∈ x.1, a.length = m) (hk : k < x.1.length * m) (h : wayIn l (wayK x m k) = false) : waysIn l x = false := by
 obtain ⟨a, c, d⟩ := wayK_get hm hrow hk;cases q : waysIn l x
 ·rfl
 ·have b := List.all_eq_true.1 (List.all_eq_true.1 q a (List.mem_of_getElem? c)) _ (List.mem_of_getElem? d);rw [h] at b;cases b
def FOk (w : World) (Bc : Nat) (cf : Array Value) (v u : Value) (x : CacheD) (m : Nat) (l : Int) (k : Nat) (W : World) : Prop :=
 (∀ j, j < k → wayIn l (wayK x m j) = true) ∧ W.heap[w.heap.size]? = some (.cells cf 39 (0, 0)) ∧ W.heap[w.heap.size + 1 + 1]? = some (.cells #[.bool false] 4 (0, 0)) ∧ W.heap[Bc]? = some (.cells #[v, u] 92 (0, 0)) ∧ Below w.heap.size w W
theorem fok_own {w : World} {Bc : Nat} {cf : Array Value} {v u : Value} {x : CacheD} {m B : Nat} {l : Int} (hB : w.heap.size ≤ B) : OwnFrom B (fun k W => FOk w Bc cf v u x m l k W) := by
 rintro k X Y a ⟨j, f, g, i, d⟩ b c;exact ⟨j, own_heap (β := Unit) _ _ _ _ () X Y a f b c, own_heap (β := Unit) _ _ _ _ () X Y a g b c, own_heap (β := Unit) _ _ _ _ () X Y a i b c, ownFrom_below (β := Unit) (Nat.le_refl _) hB () X Y a d b c⟩
theorem fok_below {w : World} {Bc : Nat} {cf : Array Value} {v u : Value} {x : CacheD} {m k : Nat} {l : Int} {W W' : World} (h : FOk w Bc cf v u x m l k W) (hb : Below W.heap.size W W') : FOk w Bc cf v u x m l k W' := by
 obtain ⟨f, b, c, d, a⟩ := h;exact ⟨f, row_keep hb b, row_keep hb c, row_keep hb d, below_step a hb⟩
theorem fitsCache_any (c s y l : Int) (a b : Option Addr) (x : CacheD) (cap cp m : Nat) (w : World) (hc : codeI c s y l = 0) (h1 : SlRd waysR w a x.1) (hp : x.1.length = 1 ∨ x.1.length = 2 ∨ x.1.length = 4) (hm : m = 1 ∨ m = 2 ∨ m = 4) (hrow : ∀ nA ∈ x.1, nA.length = m) :
    Calls Tryz.prog 174 #[.agg #[.int .i64 c, .int .i64 s, .int .i64 y, .int .i64 l], .agg #[.slice a x.1.length cap, .slice b x.2.length cp]] w fun e D => e = .returned (.bool (cacheIn s y l x m)) ∧ Below w.heap.size w D := by
 have v : 0 < m := by omega
 have oB : x.1.length = 1 ∨ x.1.length = 2 ∨ x.1.length = 4 := hp;obtain ⟨g, d, i, rfl, cA, CA⟩ := setsAt_of h1 (fun e => by rw [e] at hp; simp at hp) v hrow;have HG : Hid (∀ k, k < x.1.length * m → ((i (k / m)).way (k % m)).line = (wayK x m k).1 ∧ ((i (k / m)).way (k % m)).state = (wayK x m k).2.1 ∧ ((i (k / m)).way (k % m)).len = (wayK x m k).2.2.length) := fun k R => by
  obtain ⟨nA, e1, e2⟩ := wayK_get v hrow R;obtain ⟨q1, M, O, q4, q5, q6⟩ := CA _ _ nA _ e1 e2;exact ⟨q1, M, O⟩
 have HP : Hid (x.1.length = 1 ∨ x.1.length = 2 ∨ x.1.length = 4) := hp;have HM : Hid (m = 1 ∨ m = 2 ∨ m = 4) := hm;have HA : Hid _ := cA;have HY : Hid ((∀ j, j < x.1.length * m → wayIn l (wayK x m j) = true) → waysIn l x = true) := fun h => waysIn_yes v hrow h;have HN : Hid (∀ k, k < x.1.length * m → wayIn l (wayK x m k) = false → waysIn l x = false) := fun k R h => waysIn_no v hrow R h;have HF : Hid (∀ (u : WayD) (ua : Option Addr) (uc : Nat) (W : World), Calls Tryz.prog 175 #[.agg #[.int .i64 c, .int .i64 s, .int .i64 y, .int .i64 l], .agg #[.int .i64 u.1, .int .i64 u.2.1, .slice ua u.2.2.length uc]] W fun e D => e = .returned (.bool (wayIn l u)) ∧ Below W.heap.size W D) := fun u ua uc W => fitsWay_any c s y l u ua uc W hc;have fA := (cA 0 (by omega)).1;have yA : Hid (∀ W, Below w.heap.size w W → Calls Tryz.prog 218 #[.agg #[.slice (some ⟨g, d, none⟩) x.1.length cap, .slice b x.2.length cp]] W fun e D => e = .returned (.int .i64 (m : Int)) ∧ Below W.heap.size W D) := fun W hb => ways_any g d x.1.length cap _ _ _ _ rfl _ m _ W (by omega) (cell_keep hb fA (cell_lt fA));clear h1 CA hrow hp hm cA fA;have B := below_step (below_step (box_below w (.cells #[.int .i64 c, .int .i64 s, .int .i64 y, .int .i64 l] 39)) (box_below _ (.cells #[.slice (some ⟨g, d, none⟩) x.1.length cap, .slice b x.2.length cp] 92))) (box_below _ (.cells #[.bool false] 4));have k0 := heap_on (.cells #[.bool false] 4) (heap_on (.cells #[.slice (some ⟨g, d, none⟩) x.1.length cap, .slice b x.2.length cp] 92) (heap_at w (.cells #[.int .i64 c, .int .i64 s, .int .i64 y, .int .i64 l] 39)));have k1 := heap_on (.cells #[.bool false] 4) (heap_at (w.alloc (.cells #[.int .i64 c, .int .i64 s, .int .i64 y, .int .i64 l] 39)) (.cells #[.slice (some ⟨g, d, none⟩) x.1.length cap, .slice b x.2.length cp] 92));have V := heap_at ((w.alloc (.cells #[.int .i64 c, .int .i64 s, .int .i64 y, .int .i64 l] 39)).alloc (.cells #[.slice (some ⟨g, d, none⟩) x.1.length cap, .slice b x.2.length cp] 92)) (.cells #[.bool false] 4);rw [alloc_len] at k1;rw [alloc_len, alloc_len] at V;have e3 : w.heap.size + 1 + 1 + 1 ≤ (((w.alloc (.cells #[.int .i64 c, .int .i64 s, .int .i64 y, .int .i64 l] 39)).alloc (.cells #[.slice (some ⟨g, d, none⟩) x.1.length cap, .slice b x.2.length cp] 92)).alloc (.cells #[.bool false] 4)).heap.size := by simp
 refine (callsIn_wide (n := 0)).1 ?_;refine callsIn_of_wp_marks Tryz.func174 rfl trivial ?_ rfl;simp only [Tryz.ntmps174, List.size_toArray, List.length_cons, List.length_nil, Nat.reduceAdd, Nat.reduceSub, Array.replicate_succ, Array.replicate_zero, List.push_toArray, List.append_toArray, List.nil_append, List.cons_append];gi_wp2
 generalize (((w.alloc (.cells #[.int .i64 c, .int .i64 s, .int .i64 y, .int .i64 l] 39)).alloc (.cells #[.slice (some ⟨g, d, none⟩) x.1.length cap, .slice b x.2.length cp] 92)).alloc (.cells #[.bool false] 4)) = W3 at B k0 k1 V e3 ⊢;obtain ⟨H, F, E, G⟩ := cells_4 k0;obtain ⟨T, L⟩ := cells_two k1;by_cases hs : (x.1.length : Int) = s
 ·subst hs;have z1 : ((x.1.length : Int) != (x.1.length : Int)) = false := by simp
  by_cases hy : (m : Int) = y
  ·subst hy;have z2 : ((m : Int) != (m : Int)) = false := by simp
   have gA : ∀ n' : Cls (fun wx => Below W3.heap.size W3 wx), n'.w.cell? ⟨w.heap.size, 0, none⟩ = some (.int .i64 c) := fun n' => cell_keep n'.h H (cell_lt H);have eA : ∀ n' : Cls (fun wx => Below W3.heap.size W3 wx), n'.w.cell? ⟨w.heap.size, 1, none⟩ = some (.int .i64 (x.1.length : Int)) := fun n' => cell_keep n'.h F (cell_lt F);have jA : ∀ n' : Cls (fun wx => Below W3.heap.size W3 wx), n'.w.cell? ⟨w.heap.size, 2, none⟩ = some (.int .i64 (m : Int)) := fun n' => cell_keep n'.h E (cell_lt E);have iA : ∀ n' : Cls (fun wx => Below W3.heap.size W3 wx), n'.w.cell? ⟨w.heap.size, 3, none⟩ = some (.int .i64 l) := fun n' => cell_keep n'.h G (cell_lt G);have mA : ∀ n' : Cls (fun wx => Below W3.heap.size W3 wx), n'.w.cell? ⟨w.heap.size + 1, 0, none⟩ = some (.slice (some ⟨g, d, none⟩) x.1.length cap) := fun n' => cell_keep n'.h T (cell_lt T);have Z : ∀ n' : Cls (fun wx => Below W3.heap.size W3 wx), n'.w.cell? ⟨w.heap.size + 1, 1, none⟩ = some (.slice b x.2.length cp) := fun n' => cell_keep n'.h L (cell_lt L);have C : Hid (∀ n' : Cls (fun wx => Below W3.heap.size W3 wx), _) := fun n' => yA.out n'.w (below_step B n'.h);refine wpIn_wide.2 ?_;refine region_class (fun wx => Below W3.heap.size W3 wx) (by kernel_rfl) (by kernel_rfl) ((Below.refl _ W3).drew) ?_;intro aA;repeat (quiet_step (first | (go_at_call 218; exact calls_class (C.out _) (fun D hc bb => below_step hc bb))))
   refine wpQuiet_nil ?_;intro q r;clear aA C gA eA jA iA mA Z H F E G T L;replace k0 := row_keep r k0;replace k1 := row_keep r k1;replace V := row_keep r V;replace B := below_step B r;replace e3 := Nat.le_trans e3 r.size;clear r;obtain ⟨T, L⟩ := cells_two k1;gi_wp2
   refine ⟨trivial, rfl, (callsIn_wide.2 (everyWay_any _ _ _ _ _ _ _ _ rfl rfl _)).mono ?_⟩;rintro e D ⟨rfl, rfl⟩;gi_wp2
   have bz := box_below q (.cells #[.slice (some ⟨g, d, none⟩) x.1.length cap, .slice b x.2.length cp] 92);have kc := heap_at q (.cells #[.slice (some ⟨g, d, none⟩) x.1.length cap, .slice b x.2.length cp] 92);have e4 : (q.alloc (.cells #[.slice (some ⟨g, d, none⟩) x.1.length cap, .slice b x.2.length cp] 92)).heap.size = q.heap.size + 1 := by simp
   have kA : FOk w q.heap.size #[.int .i64 c, .int .i64 (x.1.length : Int), .int .i64 (m : Int), .int .i64 l] (.slice (some ⟨g, d, none⟩) x.1.length cap) (.slice b x.2.length cp) x m l 0 (q.alloc (.cells #[.slice (some ⟨g, d, none⟩) x.1.length cap, .slice b x.2.length cp] 92)) := ⟨fun j hj => by omega, row_keep bz k0, row_keep bz V, kc, below_step B bz⟩;clear k0 k1 V kc bz B T L;generalize q.alloc (.cells #[.slice (some ⟨g, d, none⟩) x.1.length cap, .slice b x.2.length cp] 92) = W0 at e4 kA ⊢;generalize q.heap.size = Bc at e3 e4 kA ⊢;refine range_iter (N := x.1.length * m) (lb := #[.pointer (some ⟨Bc, 0, none⟩)]) (gf := 253) rfl (enters_of Tryz.func253 (by kernel_rfl) rfl)
    (everyWay1_iter Bc g d x.1.length m cap i (by have := HP.out; omega) (by have := HM.out; omega) (by have := HP.out; omega) v) (fun _ => rfl)
    (fun k W => FOk w Bc #[.int .i64 c, .int .i64 (x.1.length : Int), .int .i64 (m : Int), .int .i64 l] (.slice (some ⟨g, d, none⟩) x.1.length cap) (.slice b x.2.length cp) x m l k W)
    (fun z k W => z = .ret ∧ waysIn l x = false ∧ W.heap[w.heap.size + 1 + 1]? = some (.cells #[.bool false] 4 (0, 0)) ∧ Below w.heap.size w W)
    (fok_own (by omega)) (fun z => OwnFrom.and (ownFrom_pure _ _) (OwnFrom.and (ownFrom_pure _ _) (OwnFrom.and (own_heap _ _ _ _) (ownFrom_below (Nat.le_refl _) (by omega))))) ?hR kA
    (fun k a' W => ∃ B6, W0.heap.size < B6 ∧ W.heap[B6]? = some (.cells #[.int .i64 ((i (k / m)).way (k % m)).line, .int .i64 ((i (k / m)).way (k % m)).state, .slice ((i (k / m)).way (k % m)).addr ((i (k / m)).way (k % m)).len ((i (k / m)).way (k % m)).cap] 88 (0, 0)) ∧ FOk w Bc #[.int .i64 c, .int .i64 (x.1.length : Int), .int .i64 (m : Int), .int .i64 l] (.slice (some ⟨g, d, none⟩) x.1.length cap) (.slice b x.2.length cp) x m l k W ∧
     a' = { tmps := #[.agg #[.int .i64 c, .int .i64 (x.1.length : Int), .int .i64 (m : Int), .int .i64 l], .agg #[.slice (some ⟨g, d, none⟩) x.1.length cap, .slice b x.2.length cp], .pointer (some ⟨w.heap.size, 0, none⟩), .pointer (some ⟨w.heap.size + 1, 0, none⟩), .pointer (some ⟨w.heap.size + 1 + 1, 0, none⟩), undef, .pointer (some ⟨B6, 0, none⟩), .pointer (some ⟨w.heap.size + 1, 0, none⟩), .slice (some ⟨g, d, none⟩) x.1.length cap, .int .i64 (x.1.length : Int), .pointer (some ⟨w.heap.size, 1, none⟩), .int .i64 (x.1.length : Int), .bool false, .bool false, .agg #[.slice (some ⟨g, d, none⟩) x.1.length cap, .slice b x.2.length cp], .int .i64 (m : Int), .pointer (some ⟨w.heap.size, 2, none⟩), .int .i64 (m : Int), .bool false, .bool false, .agg #[.slice (some ⟨g, d, none⟩) x.1.length cap, .slice b x.2.length cp], .func (.func 253) #[] #[.pointer (some ⟨Bc, 0, none⟩)], .agg #[.int .i64 (k / m : Nat), .int .i64 (k % m : Nat)], ((i (k / m)).way (k % m)).agg, undef, undef, undef, undef], defers := [] })
    ?hA ?hassign ?hbody ?hdone ?hstop
   case hR =>
    rintro k W ⟨_, _, _, g3, g4⟩;exact ⟨by rw [cell_of_row W _ 0 _ _ (0, 0) g3]; rfl, setsAt_below HA.out g4 v⟩
   case hA =>
    rintro k a' ⟨⟩ X Y U ⟨B6, l6, g6, A, rfl⟩ hg hr;exact ⟨B6, l6, own_heap (β := Unit) _ _ _ _ () X Y U g6 hg hr, fok_own (B := W0.heap.size) (by omega) k X Y U A hg hr, rfl⟩
   case hassign =>
    rintro k W K R A OA hK;gi_wp2
    have z1 := box_below W (.cells #[.int .i64 ((i (k / m)).way (k % m)).line, .int .i64 ((i (k / m)).way (k % m)).state, .slice ((i (k / m)).way (k % m)).addr ((i (k / m)).way (k % m)).len ((i (k / m)).way (k % m)).cap] 88);exact hK _ _ (Kept.below z1) ⟨W.heap.size, by omega, heap_at _ _, fok_below A z1, rfl⟩
   case hbody =>
    rintro k a' V1 R ⟨B6, l6, g6, A, rfl⟩ OA hD hL;obtain ⟨q1, M, O⟩ := HG.out k R;rw [q1, M, O] at g6;have EA : ((i (k / m)).way (k % m)).agg = .agg #[.int .i64 (wayK x m k).1, .int .i64 (wayK x m k).2.1, .slice ((i (k / m)).way (k % m)).addr (wayK x m k).2.2.length ((i (k / m)).way (k % m)).cap] := by rw [WCells.agg, q1, M, O]
    rw [EA];clear EA q1 M O;generalize ((i (k / m)).way (k % m)).addr = ad at g6 ⊢;generalize ((i (k / m)).way (k % m)).cap = cpw at g6 ⊢;have HE : Hid (∀ W, Calls Tryz.prog 175 #[.agg #[.int .i64 c, .int .i64 (x.1.length : Int), .int .i64 (m : Int), .int .i64 l], .agg #[.int .i64 (wayK x m k).1, .int .i64 (wayK x m k).2.1, .slice ad (wayK x m k).2.2.length cpw]] W fun e D => e = .returned (.bool (wayIn l (wayK x m k))) ∧ Below W.heap.size W D) := fun W => HF.out (wayK x m k) ad cpw W;obtain ⟨x0, x1, x2⟩ := cells_three g6;obtain ⟨H, F, E, G⟩ := cells_4 A.2.1;cases J : wayIn l (wayK x m k)
    ·rw [J] at HE;have NA : Hid (waysIn l x = false) := HN.out k R J;gi_wp2
     refine ⟨trivial, rfl, (CallsIn.inRound _ (callsIn_wide.2 (HE.out _))).mono ?_⟩;rintro e V2 ⟨rfl, b1⟩;obtain ⟨A, g1, I, g3, g4⟩ := fok_below A b1;have r2 : V2.cell? ⟨w.heap.size + 1 + 1, 0, none⟩ = some (.bool false) := by rw [cell_of_row V2 _ 0 _ _ (0, 0) I]; rfl
     have r3 : V2.frozen? ⟨w.heap.size + 1 + 1, 0, none⟩ = false := frozen_of_row V2 _ 0 _ _ I;clear x0 x1 x2 H F E G;gi_wp2
     refine ⟨Kept.trans (Kept.below b1) (Kept.chg (S := fun j => j = w.heap.size + 1 + 1) (chg_grown (grownBy_setCell' V2 (w.heap.size + 1 + 1) _) rfl) (fun j e => by omega)), rfl, NA.out, heap_setCell_same V2 (w.heap.size + 1 + 1) 0 _ _ (.bool false) I, g4.setCell (p := ⟨w.heap.size + 1 + 1, 0, none⟩) (by simp; omega) _⟩
    ·rw [J] at HE;gi_wp2
     refine ⟨trivial, rfl, (CallsIn.inRound _ (callsIn_wide.2 (HE.out _))).mono ?_⟩;rintro e V2 ⟨rfl, b1⟩;obtain ⟨A, g1, I, g3, g4⟩ := fok_below A b1;clear x0 x1 x2 H F E G;gi_wp2
     refine ⟨Kept.below b1, fun j hj => ?_, g1, I, g3, g4⟩;by_cases he : j < k
     ·exact A j he
     ·have : j = k := by omega
      subst this;exact J
   case hdone =>
    rintro W ⟨A, g1, I, g3, g4⟩ hK;have M : W.cell? ⟨w.heap.size + 1 + 1, 0, none⟩ = some (.bool false) := by rw [cell_of_row W _ 0 _ _ (0, 0) I]; rfl
    have O : W.frozen? ⟨w.heap.size + 1 + 1, 0, none⟩ = false := frozen_of_row W _ 0 _ _ I;gi_wp2
    have g8 := heap_setCell_same W (w.heap.size + 1 + 1) 0 _ _ (.bool true) I;have BA : (W.setCell ⟨w.heap.size + 1 + 1, 0, none⟩ (.bool true)).heap[W0.heap.size]? = some (.deferred (some [])) := (heap_setCell_other W ⟨w.heap.size + 1 + 1, 0, none⟩ _ _ (by simp; omega)).trans hK;refine ⟨by simp, .inl ⟨_, _, rfl, run_takeDeferred BA, ?_⟩⟩;have g9 := (World.putObj_heap_other (o := .deferred none) (show w.heap.size + 1 + 1 ≠ W0.heap.size by omega)).trans g8;have f := cell_of_row _ _ 0 _ _ (0, 0) g9;refine ⟨.bool true, ?_, ret_bool (by unfold cacheIn; rw [HY.out A]; simp), (g4.setCell (p := ⟨w.heap.size + 1 + 1, 0, none⟩) (by simp; omega) _).trans ((Below.refl _ _).grown (grownBy_putObj' _ _ _) (by have := (ltH BA); omega) (fun k e => by cases e; omega))⟩;simp at f
    simp [results, Tryz.results174, go_sem, f]
   case hstop =>
    rintro z k W R ⟨rfl, hf, g5, g7⟩ hK;gi_wp2
    refine ⟨by simp, .inl ⟨_, _, rfl, run_takeDeferred hK, ?_⟩⟩;have g9 := (World.putObj_heap_other (o := .deferred none) (show w.heap.size + 1 + 1 ≠ W0.heap.size by omega)).trans g5;have f := cell_of_row _ _ 0 _ _ (0, 0) g9;refine ⟨.bool false, ?_, ret_bool (by unfold cacheIn; rw [hf]; simp), g7.trans ((Below.refl _ _).grown (grownBy_putObj' _ _ _) (by have := (ltH hK); omega) (fun k e => by cases e; omega))⟩;simp at f
    simp [results, Tryz.results174, go_sem, f]
  ·have z2 : ((m : Int) != y) = true := by simp [hy]
   have gA : ∀ n' : Cls (fun wx => Below W3.heap.size W3 wx), n'.w.cell? ⟨w.heap.size, 0, none⟩ = some (.int .i64 c) := fun n' => cell_keep n'.h H (cell_lt H);have eA : ∀ n' : Cls (fun wx => Below W3.heap.size W3 wx), n'.w.cell? ⟨w.heap.size, 1, none⟩ = some (.int .i64 (x.1.length : Int)) := fun n' => cell_keep n'.h F (cell_lt F);have jA : ∀ n' : Cls (fun wx => Below W3.heap.size W3 wx), n'.w.cell? ⟨w.heap.size, 2, none⟩ = some (.int .i64 y) := fun n' => cell_keep n'.h E (cell_lt E);have iA : ∀ n' : Cls (fun wx => Below W3.heap.size W3 wx), n'.w.cell? ⟨w.heap.size, 3, none⟩ = some (.int .i64 l) := fun n' => cell_keep n'.h G (cell_lt G);have mA : ∀ n' : Cls (fun wx => Below W3.heap.size W3 wx), n'.w.cell? ⟨w.heap.size + 1, 0, none⟩ = some (.slice (some ⟨g, d, none⟩) x.1.length cap) := fun n' => cell_keep n'.h T (cell_lt T);have Z : ∀ n' : Cls (fun wx => Below W3.heap.size W3 wx), n'.w.cell? ⟨w.heap.size + 1, 1, none⟩ = some (.slice b x.2.length cp) := fun n' => cell_keep n'.h L (cell_lt L);have C : Hid (∀ n' : Cls (fun wx => Below W3.heap.size W3 wx), _) := fun n' => yA.out n'.w (below_step B n'.h);refine wpIn_wide.2 ?_;refine region_class (fun wx => Below W3.heap.size W3 wx) (by kernel_rfl) (by kernel_rfl) ((Below.refl _ W3).drew) ?_;intro aA;repeat (quiet_step (first | (go_at_call 218; exact calls_class (C.out _) (fun D hc bb => below_step hc bb))))
   refine wpQuiet_nil ?_;intro q r;clear aA C gA eA jA iA mA Z H F E G T L z2;have HH := hy;clear hy;have j2 := row_keep r V;have M : q.cell? ⟨w.heap.size + 1 + 1, 0, none⟩ = some (.bool false) := by rw [cell_of_row q _ 0 _ _ (0, 0) j2]; rfl
   have O : q.frozen? ⟨w.heap.size + 1 + 1, 0, none⟩ = false := frozen_of_row q _ 0 _ _ j2;have BB := below_step B r;gi_wp2
   have g9 := heap_setCell_same q (w.heap.size + 1 + 1) 0 _ _ (.bool false) j2;have f := cell_of_row _ _ 0 _ _ (0, 0) g9;refine ⟨.bool false, ?_, ret_bool (by unfold cacheIn; simp [HH]), BB.setCell (p := ⟨w.heap.size + 1 + 1, 0, none⟩) (by simp; omega) _⟩;simp at f
   simp [results, Tryz.results174, go_sem, f]
 ·have z1 : ((x.1.length : Int) != s) = true := by simp [hs]
  refine wpIn_wide.2 ?_;go_quiet (fail)
  have HH := hs;clear hs;have r : Below W3.heap.size W3 (W3.drewN nq) := be_drewN (Below.refl _ _) nq;generalize W3.drewN nq = q at r ⊢;have j2 := row_keep r V;have M : q.cell? ⟨w.heap.size + 1 + 1, 0, none⟩ = some (.bool false) := by rw [cell_of_row q _ 0 _ _ (0, 0) j2]; rfl
  have O : q.frozen? ⟨w.heap.size + 1 + 1, 0, none⟩ = false := frozen_of_row q _ 0 _ _ j2;have BB := below_step B r;gi_wp2
  have g9 := heap_setCell_same q (w.heap.size + 1 + 1) 0 _ _ (.bool false) j2;have f := cell_of_row _ _ 0 _ _ (0, 0) g9;refine ⟨.bool false, ?_, ret_bool (by unfold cacheIn; simp [HH]), BB.setCell (p := ⟨w.heap.size + 1 + 1, 0, none⟩) (by simp; omega) _⟩;simp at f
  simp [results, Tryz.results174, go_sem, f]
end Go.Proofs.YtcocbafhcpdheaaGreatDoor
