import Derived.Test.YtdamokokcdcedaaGreatDoorG00Box
import Derived.Test.YtdamokokcdcedaaGreatDoorG25
namespace Go.Proofs.YtdamokokcdcedaaGreatDoor
set_option maxHeartbeats 4000000
set_option maxRecDepth 20000
open Go.ChangeShapes Go.WideShapes Go.ChangeAt Go.RowKit
set_option linter.unusedVariables false
theorem code_cores {c s y l : Int} (h : codeI c s y l = 0) : (1 ≤ c ∧ c ≤ 4) ∧ (1 ≤ l ∧ l ≤ 16) := by
 have a := code_zero h;refine ⟨?_, a.1⟩;unfold codeI at h;split at h
 ·rename_i q; simpa [betw] using q
 ·cases h
def coreIn (c k : Int) : Bool := betw k 0 (c - 1)
def agentIn (c k : Int) : Bool := decide (k = 4) || (decide (k = 5) || coreIn c k)
def lineIn (l k : Int) : Bool := betw k 0 (l - 1)
def wayIn (l : Int) (u : WayD) : Bool := decide (u.1 = -1) || lineIn l u.1
def msgIn (c l : Int) (m : MsgD) : Bool := agentIn c m.2.1 && (agentIn c m.2.2.1 && lineIn l m.2.2.2.2.1)
theorem line_in {c s y l k : Int} (h : codeI c s y l = 0) : lineB c s y l k = lineIn l k := lineB_eq h
theorem hasCore_any (c s y l k : Int) (w : World) (hc : codeI c s y l = 0) :
    Calls Tryz.prog 194 #[.agg #[nI c, nI s, nI y, nI l], nI k] w fun e w' => e = .returned (.bool (coreIn c k)) ∧ Bl w w' := by
 have i := (code_cores hc).1;have hw : IntKind.i64.wrap (c - 1) = c - 1 := by rw [IntKind.wrap_i64]; omega
 have b : Hid (∀ W, Calls Tryz.prog 156 #[nI k, nI 0, nI (c - 1)] W fun e w' => e = .returned (.bool (coreIn c k)) ∧ Bl W w') := fun W => (between_any k 0 (c - 1) W).mono fun e w' ⟨q, r⟩ => ⟨q, be_eq r⟩;generalize coreIn c k = q at b ⊢;clear hc i;have B := Below.refl w.heap.size w;go_enter Tryz.func194, Tryz.ntmps194;go_upto_region 1 with fail
 generalize a : w.alloc _ = u1w;have X := boxH a;have m := boxB a;have g := boxL a;clear a;replace B := below_step B m;clear m;have n := lE g;have o := lE g.symm;clear g;obtain ⟨Xc0, Xc1, Xc2, Xc3⟩ := cells_4 X;have Xlt := (ltH X);go_wp2_with fail
 clear Xc0 Xc1 Xc2 Xc3 Xlt;refine (b.out _).mono ?_;rintro e f ⟨rfl, d⟩;have j : u1w.heap.size ≤ f.heap.size := d.size;replace B := below_step B d;replace X := row_keep d X;clear d;obtain ⟨Xc0, Xc1, Xc2, Xc3⟩ := cells_4 X;have Xlt := (ltH X);have p : Hid _ := B;clear B X;go_wp2;go_ret
 exact ⟨rfl, p.out⟩
theorem hasAgent_any (c s y l k : Int) (w : World) (hc : codeI c s y l = 0) :
    Calls Tryz.prog 191 #[.agg #[nI c, nI s, nI y, nI l], nI k] w fun e w' => e = .returned (.bool (agentIn c k)) ∧ Bl w w' := by
 have n : Hid (∀ W, Calls Tryz.prog 194 #[.agg #[nI c, nI s, nI y, nI l], nI k] W fun e w' => e = .returned (.bool (coreIn c k)) ∧ Bl W w') := fun W => hasCore_any c s y l k W hc;unfold agentIn;generalize coreIn c k = q at n ⊢;clear hc;by_cases f : k = 4
 ·have v : (k == 4) = true := by simp [f]
  rw [show (decide (k = 4) || (decide (k = 5) || q)) = true from by simp [f]];clear f;have B := Below.refl w.heap.size w;go_enter Tryz.func191, Tryz.ntmps191;go_upto_region 1 with fail
  generalize a : w.alloc _ = u1w;have X := boxH a;have d := boxB a;have b := boxL a;clear a;replace B := below_step B d;clear d;have i := lE b;have j := lE b.symm;clear b;obtain ⟨Xc0, Xc1, Xc2, Xc3⟩ := cells_4 X;have Xlt := (ltH X);have m : Hid _ := B;clear B X;go_wp2;go_ret
  exact ⟨rfl, m.out⟩
 ·have v : (k == 4) = false := by simp [f]
  by_cases g : k = 5
  ·have z : (k == 5) = true := by simp [g]
   rw [show (decide (k = 4) || (decide (k = 5) || q)) = true from by simp [g]];clear f g;have B := Below.refl w.heap.size w;go_enter Tryz.func191, Tryz.ntmps191;go_upto_region 1 with fail
   generalize a : w.alloc _ = u1w;have X := boxH a;have d := boxB a;have b := boxL a;clear a;replace B := below_step B d;clear d;have i := lE b;have j := lE b.symm;clear b;obtain ⟨Xc0, Xc1, Xc2, Xc3⟩ := cells_4 X;have Xlt := (ltH X);have m : Hid _ := B;clear B X;go_wp2;go_ret
   exact ⟨rfl, m.out⟩
  ·have z : (k == 5) = false := by simp [g]
   rw [show (decide (k = 4) || (decide (k = 5) || q)) = q from by simp [f, g]];clear f g;have B := Below.refl w.heap.size w;go_enter Tryz.func191, Tryz.ntmps191;go_upto_region 1 with fail
   generalize a : w.alloc _ = u1w;have X := boxH a;have d := boxB a;have b := boxL a;clear a;replace B := below_step B d;clear d;have i := lE b;have j := lE b.symm;clear b;obtain ⟨Xc0, Xc1, Xc2, Xc3⟩ := cells_4 X;have Xlt := (ltH X);go_wp2_with fail
   clear Xc0 Xc1 Xc2 Xc3 Xlt;refine (n.out _).mono ?_;rintro e p ⟨rfl, o⟩;have r : u1w.heap.size ≤ p.heap.size := o.size;replace B := below_step B o;replace X := row_keep o X;clear o;obtain ⟨Xc0, Xc1, Xc2, Xc3⟩ := cells_4 X;have Xlt := (ltH X);have m : Hid _ := B;clear B X;go_wp2;go_ret
   exact ⟨rfl, m.out⟩
theorem fitsWay_any (c s y l : Int) (u : WayD) (ua : Option Addr) (uc : Nat) (w : World) (hc : codeI c s y l = 0) :
    Calls Tryz.prog 198 #[.agg #[nI c, nI s, nI y, nI l], .agg #[nI u.1, nI u.2.1, sL ua u.2.2.length uc]] w fun e w' => e = .returned (.bool (wayIn l u)) ∧ Bl w w' := by
 have k : Hid (∀ W, Calls Tryz.prog 212 #[.agg #[nI c, nI s, nI y, nI l], nI u.1] W fun e w' => e = .returned (.bool (lineIn l u.1)) ∧ Bl W w') := fun W => by rw [← line_in hc]; exact hasLine_any c s y l u.1 W
 unfold wayIn;generalize lineIn l u.1 = q at k ⊢;clear hc;by_cases i : u.1 = -1
 ·have A : (u.1 == -1) = true := by simp [i]
  rw [show (decide (u.1 = -1) || q) = true from by simp [i]];clear i;have B := Below.refl w.heap.size w;go_enter Tryz.func198, Tryz.ntmps198;go_upto_region 1 with fail
  generalize a : w.alloc _ = u1w;have X := boxH a;have d := boxB a;have g := boxL a;clear a;replace B := below_step B d;clear d;have n := lE g;have o := lE g.symm;clear g;generalize b : u1w.alloc _ = u2w;have V := boxH b;have d := boxB b;have f := boxL b;clear b;rw [show u1w.heap.size = w.heap.size + 1 from by omega] at V;replace B := below_step B d;replace X := row_keep d X;clear d;have m := lE f;have v := lE f.symm;clear f;obtain ⟨Xc0, Xc1, Xc2, Xc3⟩ := cells_4 X;have Xlt := (ltH X);obtain ⟨Vc0, Vc1, Vc2⟩ := cells_3 V;have Vlt := (ltH V);have p : Hid _ := B;clear B X V;go_wp2;go_ret
  exact ⟨rfl, p.out⟩
 ·have A : (u.1 == -1) = false := by simp [i]
  rw [show (decide (u.1 = -1) || q) = q from by simp [i]];clear i;have B := Below.refl w.heap.size w;go_enter Tryz.func198, Tryz.ntmps198;go_upto_region 1 with fail
  generalize a : w.alloc _ = u1w;have X := boxH a;have d := boxB a;have g := boxL a;clear a;replace B := below_step B d;clear d;have n := lE g;have o := lE g.symm;clear g;generalize b : u1w.alloc _ = u2w;have V := boxH b;have d := boxB b;have f := boxL b;clear b;rw [show u1w.heap.size = w.heap.size + 1 from by omega] at V;replace B := below_step B d;replace X := row_keep d X;clear d;have m := lE f;have v := lE f.symm;clear f;obtain ⟨Xc0, Xc1, Xc2, Xc3⟩ := cells_4 X;have Xlt := (ltH X);obtain ⟨Vc0, Vc1, Vc2⟩ := cells_3 V;have Vlt := (ltH V);go_wp2_with fail
  clear Xc0 Xc1 Xc2 Xc3 Xlt Vc0 Vc1 Vc2 Vlt;refine (k.out _).mono ?_;rintro e r ⟨rfl, j⟩;have z : u2w.heap.size ≤ r.heap.size := j.size;replace B := below_step B j;replace X := row_keep j X;replace V := row_keep j V;clear j;obtain ⟨Xc0, Xc1, Xc2, Xc3⟩ := cells_4 X;have Xlt := (ltH X);obtain ⟨Vc0, Vc1, Vc2⟩ := cells_3 V;have Vlt := (ltH V);have p : Hid _ := B;clear B X V;go_wp2;go_ret
  exact ⟨rfl, p.out⟩
theorem fitsLetter_any (c s y l : Int) (m : MsgD) (ma : Option Addr) (mc : Nat) (w : World) (hc : codeI c s y l = 0) :
    Calls Tryz.prog 153 #[.agg #[nI c, nI s, nI y, nI l], .agg #[nI m.1, nI m.2.1, nI m.2.2.1, nI m.2.2.2.1, nI m.2.2.2.2.1, sL ma m.2.2.2.2.2.1.length mc, nI m.2.2.2.2.2.2]] w fun e w' => e = .returned (.bool (msgIn c l m)) ∧ Bl w w' := by
 have p : Hid (∀ W, Calls Tryz.prog 191 #[.agg #[nI c, nI s, nI y, nI l], nI m.2.1] W fun e w' => e = .returned (.bool (agentIn c m.2.1)) ∧ Bl W w') := fun W => hasAgent_any c s y l m.2.1 W hc;have A : Hid (∀ W, Calls Tryz.prog 191 #[.agg #[nI c, nI s, nI y, nI l], nI m.2.2.1] W fun e w' => e = .returned (.bool (agentIn c m.2.2.1)) ∧ Bl W w') := fun W => hasAgent_any c s y l m.2.2.1 W hc;have q : Hid (∀ W, Calls Tryz.prog 212 #[.agg #[nI c, nI s, nI y, nI l], nI m.2.2.2.2.1] W fun e w' => e = .returned (.bool (lineIn l m.2.2.2.2.1)) ∧ Bl W w') := fun W => by rw [← line_in hc]; exact hasLine_any c s y l m.2.2.2.2.1 W
 unfold msgIn;generalize agentIn c m.2.1 = q1 at p ⊢;generalize agentIn c m.2.2.1 = q2 at A ⊢;generalize lineIn l m.2.2.2.2.1 = q3 at q ⊢;clear hc;have B := Below.refl w.heap.size w;go_enter Tryz.func153, Tryz.ntmps153;go_upto_region 1 with fail
 generalize b : w.alloc _ = u1w;have X := boxH b;have f := boxB b;have n := boxL b;clear b;replace B := below_step B f;clear f;have C := lE n;have D := lE n.symm;clear n;generalize d : u1w.alloc _ = u2w;have M := boxH d;have f := boxB d;have k := boxL d;clear d;rw [show u1w.heap.size = w.heap.size + 1 from by omega] at M;replace B := below_step B f;replace X := row_keep f X;clear f;have E := lE k;have F := lE k.symm;clear k;obtain ⟨Xc0, Xc1, Xc2, Xc3⟩ := cells_4 X;have Xlt := (ltH X);obtain ⟨Mc0, Mc1, Mc2, Mc3, Mc4, Mc5, Mc6⟩ := cells_7 M;have Mlt := (ltH M);go_wp2_with fail
 clear Xc0 Xc1 Xc2 Xc3 Xlt Mc0 Mc1 Mc2 Mc3 Mc4 Mc5 Mc6 Mlt;refine (p.out _).mono ?_;rintro e i ⟨rfl, a⟩;have r : u2w.heap.size ≤ i.heap.size := a.size;replace B := below_step B a;replace X := row_keep a X;replace M := row_keep a M;clear a;cases q1
 ·skip
  obtain ⟨Xc0, Xc1, Xc2, Xc3⟩ := cells_4 X;have Xlt := (ltH X);obtain ⟨Mc0, Mc1, Mc2, Mc3, Mc4, Mc5, Mc6⟩ := cells_7 M;have Mlt := (ltH M);have g : Hid _ := B;clear B X M;go_wp2;go_ret
  exact ⟨rfl, g.out⟩
 ·skip
  obtain ⟨Xc0, Xc1, Xc2, Xc3⟩ := cells_4 X;have Xlt := (ltH X);obtain ⟨Mc0, Mc1, Mc2, Mc3, Mc4, Mc5, Mc6⟩ := cells_7 M;have Mlt := (ltH M);go_wp2_with fail
  clear Xc0 Xc1 Xc2 Xc3 Xlt Mc0 Mc1 Mc2 Mc3 Mc4 Mc5 Mc6 Mlt;refine (A.out _).mono ?_;rintro e j ⟨rfl, a⟩;have v : i.heap.size ≤ j.heap.size := a.size;replace B := below_step B a;replace X := row_keep a X;replace M := row_keep a M;clear a;cases q2
  ·skip
   obtain ⟨Xc0, Xc1, Xc2, Xc3⟩ := cells_4 X;have Xlt := (ltH X);obtain ⟨Mc0, Mc1, Mc2, Mc3, Mc4, Mc5, Mc6⟩ := cells_7 M;have Mlt := (ltH M);have g : Hid _ := B;clear B X M;go_wp2;go_ret
   exact ⟨rfl, g.out⟩
  ·skip
   obtain ⟨Xc0, Xc1, Xc2, Xc3⟩ := cells_4 X;have Xlt := (ltH X);obtain ⟨Mc0, Mc1, Mc2, Mc3, Mc4, Mc5, Mc6⟩ := cells_7 M;have Mlt := (ltH M);go_wp2_with fail
   clear Xc0 Xc1 Xc2 Xc3 Xlt Mc0 Mc1 Mc2 Mc3 Mc4 Mc5 Mc6 Mlt;refine (q.out _).mono ?_;rintro e o ⟨rfl, a⟩;have z : j.heap.size ≤ o.heap.size := a.size;replace B := below_step B a;replace X := row_keep a X;replace M := row_keep a M;clear a;obtain ⟨Xc0, Xc1, Xc2, Xc3⟩ := cells_4 X;have Xlt := (ltH X);obtain ⟨Mc0, Mc1, Mc2, Mc3, Mc4, Mc5, Mc6⟩ := cells_7 M;have Mlt := (ltH M);have g : Hid _ := B;clear B X M;go_wp2;go_ret
   exact ⟨rfl, g.out⟩
open Go.ChangeShapes Go.WideShapes Go.ChangeAt Go.RowKit Go.Shelf
attribute [local go_sem] Oper.semAt_some
def waysIn (l : Int) (x : CacheD) : Bool := x.1.all fun row => row.all (wayIn l)
def cacheIn (s y l : Int) (x : CacheD) (m : Nat) : Bool := decide ((x.1.length : Int) = s) && (decide ((m : Int) = y) && waysIn l x)
theorem waysIn_yes {l : Int} {x : CacheD} {m : Nat} (hm : 0 < m) (hrow : ∀ row ∈ x.1, row.length = m) (h : ∀ j, j < x.1.length * m → wayIn l (wayK x m j) = true) : waysIn l x = true := by
 refine List.all_eq_true.2 fun row hr => List.all_eq_true.2 fun u hu => ?_;obtain ⟨i, f⟩ := List.getElem?_of_mem hr;obtain ⟨j, d⟩ := List.getElem?_of_mem hu;have hl := hrow row hr;have b := (List.getElem?_eq_some_iff.1 f).1;have g := (List.getElem?_eq_some_iff.1 d).1;have a : j < m := by omega
 have p : (m * i + j) / m = i := by rw [Nat.mul_add_div hm, Nat.div_eq_of_lt a, Nat.add_zero]
 have k : (m * i + j) % m = j := by rw [Nat.mul_add_mod, Nat.mod_eq_of_lt a]
 have c : m * i + j < x.1.length * m := by
  have : m * (i + 1) ≤ m * x.1.length := Nat.mul_le_mul_left m b;rw [Nat.mul_add, Nat.mul_one] at this;rw [Nat.mul_comm x.1.length m];omega
 have q := h _ c;unfold wayK at q;have n : x.1.getD i [] = row := by rw [List.getD_eq_getElem?_getD, f]; rfl
 have o : row.getD j emptyW = u := by rw [List.getD_eq_getElem?_getD, d]; rfl
 rw [p, k, n, o] at q;exact q
theorem waysIn_no {l : Int} {x : CacheD} {m k : Nat} (hm : 0 < m) (hrow : ∀ a ∈ x.1, a.length = m) (hk : k < x.1.length * m) (h : wayIn l (wayK x m k) = false) : waysIn l x = false := by
 obtain ⟨a, d, c⟩ := wayK_get hm hrow hk;cases q : waysIn l x
 ·rfl
 ·have b := List.all_eq_true.1 (List.all_eq_true.1 q a (List.mem_of_getElem? d)) _ (List.mem_of_getElem? c);rw [h] at b;cases b
def FOk (w : World) (Bc : Nat) (cf : Array Value) (v u : Value) (x : CacheD) (m : Nat) (l : Int) (k : Nat) (W : World) : Prop :=
 (∀ j, j < k → wayIn l (wayK x m j) = true) ∧ W.heap[w.heap.size]? = some (.cells cf 38 (0, 0)) ∧ W.heap[w.heap.size + 1 + 1]? = some (.cells #[.bool false] 4 (0, 0)) ∧ W.heap[Bc]? = some (.cells #[v, u] 95 (0, 0)) ∧ Below w.heap.size w W
theorem fok_own {w : World} {Bc : Nat} {cf : Array Value} {v u : Value} {x : CacheD} {m B : Nat} {l : Int} (hB : w.heap.size ≤ B) : OwnFrom B (fun k W => FOk w Bc cf v u x m l k W) := by
 rintro k X Y a ⟨d, f, j, g, i⟩ c b;exact ⟨d, own_heap (β := Unit) _ _ _ _ () X Y a f c b, own_heap (β := Unit) _ _ _ _ () X Y a j c b, own_heap (β := Unit) _ _ _ _ () X Y a g c b, ownFrom_below (β := Unit) (Nat.le_refl _) hB () X Y a i c b⟩
theorem fok_below {w : World} {Bc : Nat} {cf : Array Value} {v u : Value} {x : CacheD} {m k : Nat} {l : Int} {W W' : World} (h : FOk w Bc cf v u x m l k W) (hb : Bl W W') : FOk w Bc cf v u x m l k W' := by
 obtain ⟨a, b, f, c, d⟩ := h;exact ⟨a, row_keep hb b, row_keep hb f, row_keep hb c, below_step d hb⟩
theorem fitsCache_any (c s y l : Int) (a b : Option Addr) (x : CacheD) (cap cp m : Nat) (w : World) (hc : codeI c s y l = 0) (h1 : SlRd waysR w a x.1) (hp : x.1.length = 1 ∨ x.1.length = 2 ∨ x.1.length = 4) (hm : m = 1 ∨ m = 2 ∨ m = 4) (hrow : ∀ eA ∈ x.1, eA.length = m) :
    Calls Tryz.prog 197 #[.agg #[nI c, nI s, nI y, nI l], .agg #[sL a x.1.length cap, sL b x.2.length cp]] w fun e D => e = .returned (.bool (cacheIn s y l x m)) ∧ Bl w D := by
 have r : 0 < m := by omega
 have jB : x.1.length = 1 ∨ x.1.length = 2 ∨ x.1.length = 4 := hp;obtain ⟨f, d, i, rfl, cA, DA⟩ := setsAt_of h1 (fun e => by rw [e] at hp; simp at hp) r hrow;have HG : Hid (∀ k, k < x.1.length * m → ((i (k / m)).way (k % m)).line = (wayK x m k).1 ∧ ((i (k / m)).way (k % m)).state = (wayK x m k).2.1 ∧ ((i (k / m)).way (k % m)).len = (wayK x m k).2.2.length) := fun k M => by
  obtain ⟨eA, e1, e2⟩ := wayK_get r hrow M;obtain ⟨q1, L, T, q4, q5, q6⟩ := DA _ _ eA _ e1 e2;exact ⟨q1, L, T⟩
 have HP : Hid (x.1.length = 1 ∨ x.1.length = 2 ∨ x.1.length = 4) := hp;have HM : Hid (m = 1 ∨ m = 2 ∨ m = 4) := hm;have HA : Hid _ := cA;have HY : Hid ((∀ j, j < x.1.length * m → wayIn l (wayK x m j) = true) → waysIn l x = true) := fun h => waysIn_yes r hrow h;have HN : Hid (∀ k, k < x.1.length * m → wayIn l (wayK x m k) = false → waysIn l x = false) := fun k M h => waysIn_no r hrow M h;have HF : Hid (∀ (u : WayD) (ua : Option Addr) (uc : Nat) (W : World), Calls Tryz.prog 198 #[.agg #[nI c, nI s, nI y, nI l], .agg #[nI u.1, nI u.2.1, sL ua u.2.2.length uc]] W fun e D => e = .returned (.bool (wayIn l u)) ∧ Bl W D) := fun u ua uc W => fitsWay_any c s y l u ua uc W hc;have gA := (cA 0 (by omega)).1;have AA : Hid (∀ W, Bl w W → Calls Tryz.prog 237 #[.agg #[sL (some ⟨f, d, none⟩) x.1.length cap, sL b x.2.length cp]] W fun e D => e = .returned (nI (m : Int)) ∧ Bl W D) := fun W hb => ways_any f d x.1.length cap _ _ _ _ rfl _ m _ W (by omega) (cell_keep hb gA (cell_lt gA));clear h1 DA hrow hp hm cA gA;have B := below_step (below_step (box_below w (.cells #[nI c, nI s, nI y, nI l] 38)) (box_below _ (.cells #[sL (some ⟨f, d, none⟩) x.1.length cap, sL b x.2.length cp] 95))) (box_below _ (.cells #[.bool false] 4));have k0 := heap_on (.cells #[.bool false] 4) (heap_on (.cells #[sL (some ⟨f, d, none⟩) x.1.length cap, sL b x.2.length cp] 95) (heap_at w (.cells #[nI c, nI s, nI y, nI l] 38)));have k1 := heap_on (.cells #[.bool false] 4) (heap_at (w.alloc (.cells #[nI c, nI s, nI y, nI l] 38)) (.cells #[sL (some ⟨f, d, none⟩) x.1.length cap, sL b x.2.length cp] 95));have V := heap_at ((w.alloc (.cells #[nI c, nI s, nI y, nI l] 38)).alloc (.cells #[sL (some ⟨f, d, none⟩) x.1.length cap, sL b x.2.length cp] 95)) (.cells #[.bool false] 4);rw [alloc_len] at k1;rw [alloc_len, alloc_len] at V;have e3 : w.heap.size + 1 + 1 + 1 ≤ (((w.alloc (.cells #[nI c, nI s, nI y, nI l] 38)).alloc (.cells #[sL (some ⟨f, d, none⟩) x.1.length cap, sL b x.2.length cp] 95)).alloc (.cells #[.bool false] 4)).heap.size := by simp
 refine (callsIn_wide (n := 0)).1 ?_;refine callsIn_of_wp_marks Tryz.func197 rfl trivial ?_ rfl;simp only [Tryz.ntmps197, List.size_toArray, List.length_cons, List.length_nil, Nat.reduceAdd, Nat.reduceSub, Array.replicate_succ, Array.replicate_zero, List.push_toArray, List.append_toArray, List.nil_append, List.cons_append];gi_wp2
 generalize (((w.alloc (.cells #[nI c, nI s, nI y, nI l] 38)).alloc (.cells #[sL (some ⟨f, d, none⟩) x.1.length cap, sL b x.2.length cp] 95)).alloc (.cells #[.bool false] 4)) = W3 at B k0 k1 V e3 ⊢;obtain ⟨J, F, I, E⟩ := cells_4 k0;obtain ⟨R, U⟩ := cells_two k1;by_cases hs : (x.1.length : Int) = s
 ·subst hs;have z1 : ((x.1.length : Int) != (x.1.length : Int)) = false := by simp
  by_cases hy : (m : Int) = y
  ·subst hy;have z2 : ((m : Int) != (m : Int)) = false := by simp
   have pA : ∀ n' : Cls (fun wx => Bl W3 wx), n'.w.cell? ⟨w.heap.size, 0, none⟩ = some (nI c) := fun n' => cell_keep n'.h J (cell_lt J);have lA : ∀ n' : Cls (fun wx => Bl W3 wx), n'.w.cell? ⟨w.heap.size, 1, none⟩ = some (nI (x.1.length : Int)) := fun n' => cell_keep n'.h F (cell_lt F);have iA : ∀ n' : Cls (fun wx => Bl W3 wx), n'.w.cell? ⟨w.heap.size, 2, none⟩ = some (nI (m : Int)) := fun n' => cell_keep n'.h I (cell_lt I);have nA : ∀ n' : Cls (fun wx => Bl W3 wx), n'.w.cell? ⟨w.heap.size, 3, none⟩ = some (nI l) := fun n' => cell_keep n'.h E (cell_lt E);have oA : ∀ n' : Cls (fun wx => Bl W3 wx), n'.w.cell? ⟨w.heap.size + 1, 0, none⟩ = some (sL (some ⟨f, d, none⟩) x.1.length cap) := fun n' => cell_keep n'.h R (cell_lt R);have kA : ∀ n' : Cls (fun wx => Bl W3 wx), n'.w.cell? ⟨w.heap.size + 1, 1, none⟩ = some (sL b x.2.length cp) := fun n' => cell_keep n'.h U (cell_lt U);have C : Hid (∀ n' : Cls (fun wx => Bl W3 wx), _) := fun n' => AA.out n'.w (below_step B n'.h);refine wpIn_wide.2 ?_;refine region_class (fun wx => Bl W3 wx) (by kernel_rfl) (by kernel_rfl) ((Below.refl _ W3).drew) ?_;intro Z;repeat (quiet_step (first | (go_at_call 237; exact calls_class (C.out _) (fun D hc bb => below_step hc bb))))
   refine wpQuiet_nil ?_;intro q v;clear Z C pA lA iA nA oA kA J F I E R U;replace k0 := row_keep v k0;replace k1 := row_keep v k1;replace V := row_keep v V;replace B := below_step B v;replace e3 := Nat.le_trans e3 v.size;clear v;obtain ⟨R, U⟩ := cells_two k1;gi_wp2
   refine ⟨trivial, rfl, (callsIn_wide.2 (everyWay_any _ _ _ _ _ _ _ _ rfl rfl _)).mono ?_⟩;rintro e D ⟨rfl, rfl⟩;gi_wp2
   have bz := box_below q (.cells #[sL (some ⟨f, d, none⟩) x.1.length cap, sL b x.2.length cp] 95);have kc := heap_at q (.cells #[sL (some ⟨f, d, none⟩) x.1.length cap, sL b x.2.length cp] 95);have e4 : (q.alloc (.cells #[sL (some ⟨f, d, none⟩) x.1.length cap, sL b x.2.length cp] 95)).heap.size = q.heap.size + 1 := by simp
   have dA : FOk w q.heap.size #[nI c, nI (x.1.length : Int), nI (m : Int), nI l] (sL (some ⟨f, d, none⟩) x.1.length cap) (sL b x.2.length cp) x m l 0 (q.alloc (.cells #[sL (some ⟨f, d, none⟩) x.1.length cap, sL b x.2.length cp] 95)) := ⟨fun j hj => by omega, row_keep bz k0, row_keep bz V, kc, below_step B bz⟩;clear k0 k1 V kc bz B R U;generalize q.alloc (.cells #[sL (some ⟨f, d, none⟩) x.1.length cap, sL b x.2.length cp] 95) = W0 at e4 dA ⊢;generalize q.heap.size = Bc at e3 e4 dA ⊢;refine range_iter (N := x.1.length * m) (lb := #[.pointer (some ⟨Bc, 0, none⟩)]) (gf := 158) rfl (enters_of Tryz.func158 (by kernel_rfl) rfl)
    (everyWay1_iter Bc f d x.1.length m cap i (by have := HP.out; omega) (by have := HM.out; omega) (by have := HP.out; omega) r) (fun _ => rfl)
    (fun k W => FOk w Bc #[nI c, nI (x.1.length : Int), nI (m : Int), nI l] (sL (some ⟨f, d, none⟩) x.1.length cap) (sL b x.2.length cp) x m l k W)
    (fun z k W => z = .ret ∧ waysIn l x = false ∧ W.heap[w.heap.size + 1 + 1]? = some (.cells #[.bool false] 4 (0, 0)) ∧ Bl w W)
    (fok_own (by omega)) (fun z => OwnFrom.and (ownFrom_pure _ _) (OwnFrom.and (ownFrom_pure _ _) (OwnFrom.and (own_heap _ _ _ _) (ownFrom_below (Nat.le_refl _) (by omega))))) ?hR dA
    (fun k a' W => ∃ B6, W0.heap.size < B6 ∧ W.heap[B6]? = some (.cells #[nI ((i (k / m)).way (k % m)).line, nI ((i (k / m)).way (k % m)).state, .slice ((i (k / m)).way (k % m)).addr ((i (k / m)).way (k % m)).len ((i (k / m)).way (k % m)).cap] 74 (0, 0)) ∧ FOk w Bc #[nI c, nI (x.1.length : Int), nI (m : Int), nI l] (sL (some ⟨f, d, none⟩) x.1.length cap) (sL b x.2.length cp) x m l k W ∧
     a' = { tmps := #[.agg #[nI c, nI (x.1.length : Int), nI (m : Int), nI l], .agg #[sL (some ⟨f, d, none⟩) x.1.length cap, sL b x.2.length cp], .pointer (some ⟨w.heap.size, 0, none⟩), .pointer (some ⟨w.heap.size + 1, 0, none⟩), .pointer (some ⟨w.heap.size + 1 + 1, 0, none⟩), undef, .pointer (some ⟨B6, 0, none⟩), .pointer (some ⟨w.heap.size + 1, 0, none⟩), sL (some ⟨f, d, none⟩) x.1.length cap, nI (x.1.length : Int), .pointer (some ⟨w.heap.size, 1, none⟩), nI (x.1.length : Int), .bool false, .bool false, .agg #[sL (some ⟨f, d, none⟩) x.1.length cap, sL b x.2.length cp], nI (m : Int), .pointer (some ⟨w.heap.size, 2, none⟩), nI (m : Int), .bool false, .bool false, .agg #[sL (some ⟨f, d, none⟩) x.1.length cap, sL b x.2.length cp], .func (.func 158) #[] #[.pointer (some ⟨Bc, 0, none⟩)], .agg #[nI (k / m : Nat), nI (k % m : Nat)], ((i (k / m)).way (k % m)).agg, undef, undef, undef, undef], defers := [] })
    ?hA ?hassign ?hbody ?hdone ?hstop
   case hR =>
    rintro k W ⟨_, _, _, g3, g4⟩;exact ⟨by rw [cell_of_row W _ 0 _ _ (0, 0) g3]; rfl, setsAt_below HA.out g4 r⟩
   case hA =>
    rintro k a' ⟨⟩ X Y O ⟨B6, l6, g6, A, rfl⟩ hg hr;exact ⟨B6, l6, own_heap (β := Unit) _ _ _ _ () X Y O g6 hg hr, fok_own (B := W0.heap.size) (by omega) k X Y O A hg hr, rfl⟩
   case hassign =>
    rintro k W K M A RA hK;gi_wp2
    have z1 := box_below W (.cells #[nI ((i (k / m)).way (k % m)).line, nI ((i (k / m)).way (k % m)).state, .slice ((i (k / m)).way (k % m)).addr ((i (k / m)).way (k % m)).len ((i (k / m)).way (k % m)).cap] 74);exact hK _ _ (Kept.below z1) ⟨W.heap.size, by omega, heap_at _ _, fok_below A z1, rfl⟩
   case hbody =>
    rintro k a' V1 M ⟨B6, l6, g6, A, rfl⟩ RA hD hL;obtain ⟨q1, L, T⟩ := HG.out k M;rw [q1, L, T] at g6;have yA : ((i (k / m)).way (k % m)).agg = .agg #[nI (wayK x m k).1, nI (wayK x m k).2.1, .slice ((i (k / m)).way (k % m)).addr (wayK x m k).2.2.length ((i (k / m)).way (k % m)).cap] := by rw [WCells.agg, q1, L, T]
    rw [yA];clear yA q1 L T;generalize ((i (k / m)).way (k % m)).addr = ad at g6 ⊢;generalize ((i (k / m)).way (k % m)).cap = cpw at g6 ⊢;have HE : Hid (∀ W, Calls Tryz.prog 198 #[.agg #[nI c, nI (x.1.length : Int), nI (m : Int), nI l], .agg #[nI (wayK x m k).1, nI (wayK x m k).2.1, sL ad (wayK x m k).2.2.length cpw]] W fun e D => e = .returned (.bool (wayIn l (wayK x m k))) ∧ Bl W D) := fun W => HF.out (wayK x m k) ad cpw W;obtain ⟨x0, x1, x2⟩ := cells_three g6;obtain ⟨J, F, I, E⟩ := cells_4 A.2.1;cases G : wayIn l (wayK x m k)
    ·rw [G] at HE;have NA : Hid (waysIn l x = false) := HN.out k M G;gi_wp2
     refine ⟨trivial, rfl, (CallsIn.inRound _ (callsIn_wide.2 (HE.out _))).mono ?_⟩;rintro e V2 ⟨rfl, b1⟩;obtain ⟨A, g1, H, g3, g4⟩ := fok_below A b1;have r2 : V2.cell? ⟨w.heap.size + 1 + 1, 0, none⟩ = some (.bool false) := by rw [cell_of_row V2 _ 0 _ _ (0, 0) H]; rfl
     have r3 : V2.frozen? ⟨w.heap.size + 1 + 1, 0, none⟩ = false := frozen_of_row V2 _ 0 _ _ H;clear x0 x1 x2 J F I E;gi_wp2
     refine ⟨Kept.trans (Kept.below b1) (Kept.chg (S := fun j => j = w.heap.size + 1 + 1) (chg_grown (grownBy_setCell' V2 (w.heap.size + 1 + 1) _) rfl) (fun j e => by omega)), rfl, NA.out, heap_setCell_same V2 (w.heap.size + 1 + 1) 0 _ _ (.bool false) H, g4.setCell (p := ⟨w.heap.size + 1 + 1, 0, none⟩) (by simp; omega) _⟩
    ·rw [G] at HE;gi_wp2
     refine ⟨trivial, rfl, (CallsIn.inRound _ (callsIn_wide.2 (HE.out _))).mono ?_⟩;rintro e V2 ⟨rfl, b1⟩;obtain ⟨A, g1, H, g3, g4⟩ := fok_below A b1;clear x0 x1 x2 J F I E;gi_wp2
     refine ⟨Kept.below b1, fun j hj => ?_, g1, H, g3, g4⟩;by_cases he : j < k
     ·exact A j he
     ·have : j = k := by omega
      subst this;exact G
   case hdone =>
    rintro W ⟨A, g1, H, g3, g4⟩ hK;have L : W.cell? ⟨w.heap.size + 1 + 1, 0, none⟩ = some (.bool false) := by rw [cell_of_row W _ 0 _ _ (0, 0) H]; rfl
    have T : W.frozen? ⟨w.heap.size + 1 + 1, 0, none⟩ = false := frozen_of_row W _ 0 _ _ H;gi_wp2
    have g8 := heap_setCell_same W (w.heap.size + 1 + 1) 0 _ _ (.bool true) H;have zA : (W.setCell ⟨w.heap.size + 1 + 1, 0, none⟩ (.bool true)).heap[W0.heap.size]? = some (.deferred (some [])) := (heap_setCell_other W ⟨w.heap.size + 1 + 1, 0, none⟩ _ _ (by simp; omega)).trans hK;refine ⟨by simp, .inl ⟨_, _, rfl, run_takeDeferred zA, ?_⟩⟩;have g9 := (World.putObj_heap_other (o := .deferred none) (show w.heap.size + 1 + 1 ≠ W0.heap.size by omega)).trans g8;have g := cell_of_row _ _ 0 _ _ (0, 0) g9;refine ⟨.bool true, ?_, ret_bool (by unfold cacheIn; rw [HY.out A]; simp), (g4.setCell (p := ⟨w.heap.size + 1 + 1, 0, none⟩) (by simp; omega) _).trans ((Below.refl _ _).grown (grownBy_putObj' _ _ _) (by have := (ltH zA); omega) (fun k e => by cases e; omega))⟩;simp at g
    simp [results, Tryz.results197, go_sem, g]
   case hstop =>
    rintro z k W M ⟨rfl, hf, g5, g7⟩ hK;gi_wp2
    refine ⟨by simp, .inl ⟨_, _, rfl, run_takeDeferred hK, ?_⟩⟩;have g9 := (World.putObj_heap_other (o := .deferred none) (show w.heap.size + 1 + 1 ≠ W0.heap.size by omega)).trans g5;have g := cell_of_row _ _ 0 _ _ (0, 0) g9;refine ⟨.bool false, ?_, ret_bool (by unfold cacheIn; rw [hf]; simp), g7.trans ((Below.refl _ _).grown (grownBy_putObj' _ _ _) (by have := (ltH hK); omega) (fun k e => by cases e; omega))⟩;simp at g
    simp [results, Tryz.results197, go_sem, g]
  ·have z2 : ((m : Int) != y) = true := by simp [hy]
   have pA : ∀ n' : Cls (fun wx => Bl W3 wx), n'.w.cell? ⟨w.heap.size, 0, none⟩ = some (nI c) := fun n' => cell_keep n'.h J (cell_lt J);have lA : ∀ n' : Cls (fun wx => Bl W3 wx), n'.w.cell? ⟨w.heap.size, 1, none⟩ = some (nI (x.1.length : Int)) := fun n' => cell_keep n'.h F (cell_lt F);have iA : ∀ n' : Cls (fun wx => Bl W3 wx), n'.w.cell? ⟨w.heap.size, 2, none⟩ = some (nI y) := fun n' => cell_keep n'.h I (cell_lt I);have nA : ∀ n' : Cls (fun wx => Bl W3 wx), n'.w.cell? ⟨w.heap.size, 3, none⟩ = some (nI l) := fun n' => cell_keep n'.h E (cell_lt E);have oA : ∀ n' : Cls (fun wx => Bl W3 wx), n'.w.cell? ⟨w.heap.size + 1, 0, none⟩ = some (sL (some ⟨f, d, none⟩) x.1.length cap) := fun n' => cell_keep n'.h R (cell_lt R);have kA : ∀ n' : Cls (fun wx => Bl W3 wx), n'.w.cell? ⟨w.heap.size + 1, 1, none⟩ = some (sL b x.2.length cp) := fun n' => cell_keep n'.h U (cell_lt U);have C : Hid (∀ n' : Cls (fun wx => Bl W3 wx), _) := fun n' => AA.out n'.w (below_step B n'.h);refine wpIn_wide.2 ?_;refine region_class (fun wx => Bl W3 wx) (by kernel_rfl) (by kernel_rfl) ((Below.refl _ W3).drew) ?_;intro Z;repeat (quiet_step (first | (go_at_call 237; exact calls_class (C.out _) (fun D hc bb => below_step hc bb))))
   refine wpQuiet_nil ?_;intro q v;clear Z C pA lA iA nA oA kA J F I E R U z2;have HH := hy;clear hy;have j2 := row_keep v V;have L : q.cell? ⟨w.heap.size + 1 + 1, 0, none⟩ = some (.bool false) := by rw [cell_of_row q _ 0 _ _ (0, 0) j2]; rfl
   have T : q.frozen? ⟨w.heap.size + 1 + 1, 0, none⟩ = false := frozen_of_row q _ 0 _ _ j2;have BB := below_step B v;gi_wp2
   have g9 := heap_setCell_same q (w.heap.size + 1 + 1) 0 _ _ (.bool false) j2;have g := cell_of_row _ _ 0 _ _ (0, 0) g9;refine ⟨.bool false, ?_, ret_bool (by unfold cacheIn; simp [HH]), BB.setCell (p := ⟨w.heap.size + 1 + 1, 0, none⟩) (by simp; omega) _⟩;simp at g
   simp [results, Tryz.results197, go_sem, g]
 ·have z1 : ((x.1.length : Int) != s) = true := by simp [hs]
  refine wpIn_wide.2 ?_;go_quiet (fail)
  have HH := hs;clear hs;have v : Bl W3 (W3.drewN nq) := be_drewN (Below.refl _ _) nq;generalize W3.drewN nq = q at v ⊢;have j2 := row_keep v V;have L : q.cell? ⟨w.heap.size + 1 + 1, 0, none⟩ = some (.bool false) := by rw [cell_of_row q _ 0 _ _ (0, 0) j2]; rfl
  have T : q.frozen? ⟨w.heap.size + 1 + 1, 0, none⟩ = false := frozen_of_row q _ 0 _ _ j2;have BB := below_step B v;gi_wp2
  have g9 := heap_setCell_same q (w.heap.size + 1 + 1) 0 _ _ (.bool false) j2;have g := cell_of_row _ _ 0 _ _ (0, 0) g9;refine ⟨.bool false, ?_, ret_bool (by unfold cacheIn; simp [HH]), BB.setCell (p := ⟨w.heap.size + 1 + 1, 0, none⟩) (by simp; omega) _⟩;simp at g
  simp [results, Tryz.results197, go_sem, g]
end Go.Proofs.YtdamokokcdcedaaGreatDoor
