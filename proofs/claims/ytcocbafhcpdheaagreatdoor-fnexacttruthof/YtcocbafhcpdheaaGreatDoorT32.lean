import Derived.Test.YtcocbafhcpdheaaGreatDoorT00Box
import Derived.Test.YtcocbafhcpdheaaGreatDoorT31
namespace Go.Proofs.YtcocbafhcpdheaaGreatDoor
set_option maxHeartbeats 4000000
set_option maxRecDepth 20000
open Go.ChangeShapes Go.WideShapes Go.ChangeAt Go.RowKit
set_option linter.unusedVariables false
def cby (k : Int) : Bool := decide (k = 1) || decide (k = 2)
def pby (k : Int) : Bool := decide (k = 3) || decide (k = 4)
def askB (k f : Int) : Bool := (cby k && zA8 f 0 3) || (pby k && decide (f = 5))
def zO5 (k l : Int) : Bool := if pby k then zA8 l 1 4 else zA8 l 0 4
def zLE (o s : Int) : Bool := if zA8 o 0 3 then decide (s = 0) else decide (o = -1) && zA8 s 0 15
def zID (b : Bool) (k f l : Int) : Bool := if b then askB k f && zO5 k l else decide (k = 0) && (decide (f = 0) && decide (l = 0))
def zIE (k m : Int) (d : List Int) : Bool := if k = 4 then zA8 m 0 3 && isL d else decide (m = 0) && decide (d.length = 0)
theorem who_eq (o s : Int) : zBw o s = zLE o s := by
 unfold zBw zLE zA8;rw [Bool.eq_iff_iff];by_cases h : 0 ≤ o ∧ o ≤ 3
 ·rw [if_pos (by simpa using h)];simp
  omega
 ·rw [if_neg (by simpa using h)];simp
  omega
theorem req_eq (b : Bool) (k f l m : Int) (d : List Int) : (if b then zAL k f l m d else zBc k f l m d) = (zID b k f l && zIE k m d) := by
 cases b
 ·show zBc k f l m d = (zID false k f l && zIE k m d)
  unfold zBc zID zIE;generalize decide (d.length = 0) = z;by_cases h : k = 4
  ·subst h; simp
  ·rw [if_neg (by decide), if_neg h];cases z <;> simp [Bool.and_assoc]
 ·show zAL k f l m d = (zID true k f l && zIE k m d)
  unfold zAL zID zIE zCS zDI askB zO5 cby pby zA8;generalize decide (d.length = 0) = z;generalize isL d = y;cases z <;> cases y
  all_goals
   by_cases h1 : k = 1
   ·subst h1; rw [Bool.eq_iff_iff]; simp <;> omega
   ·by_cases h2 : k = 2
    ·subst h2; rw [Bool.eq_iff_iff]; simp <;> omega
    ·by_cases h3 : k = 3
     ·subst h3; rw [Bool.eq_iff_iff]; simp <;> omega
     ·by_cases h4 : k = 4
      ·subst h4; rw [Bool.eq_iff_iff]; simp <;> omega
      ·rw [Bool.eq_iff_iff];simp [h1, h2, h3, h4]
       try omega
theorem zO6 (o s : Int) (b : Bool) (k f l m : Int) (d : List Int) : zDD (o, s, b, k, f, l, m, d) = (zLE o s && (zID b k f l && zIE k m d)) := by
 rw [eb, who_eq, req_eq]
theorem zB7 (c : Int) (w : World) : Calls Tryz.prog 231 #[.int .i64 c] w fun e w' => e = .returned (.bool (zA8 c 0 3)) ∧ w' = w := by
 go_enter Tryz.func231, Tryz.ntmps231;go_wp2_with (go_at_call 76; refine (zAw _ _ _ _).mono ?_; rintro e w' ⟨rfl, rfl⟩)
 go_ret
 exact ⟨rfl, rfl⟩
theorem zDJ (k : Int) (w : World) : Calls Tryz.prog 284 #[.int .i64 k] w fun e w' => e = .returned (.bool (cby k)) ∧ w' = w := by
 by_cases h1 : k = 1
 ·subst h1;go_enter Tryz.func284, Tryz.ntmps284;go_wp2;go_ret
  exact ⟨rfl, rfl⟩
 ·have h1b : (k == 1) = false := beq_false_of_ne h1;by_cases h2 : k = 2
  ·subst h2;go_enter Tryz.func284, Tryz.ntmps284;go_wp2;go_ret
   exact ⟨rfl, rfl⟩
  ·have h2b : (k == 2) = false := beq_false_of_ne h2;have HV : Hid (cby k = false) := by unfold Hid cby; simp [h1, h2]
   go_enter Tryz.func284, Tryz.ntmps284;go_wp2;go_ret
   exact ⟨zAl HV.out.symm, rfl⟩
theorem zCT (k : Int) (w : World) : Calls Tryz.prog 285 #[.int .i64 k] w fun e w' => e = .returned (.bool (pby k)) ∧ w' = w := by
 by_cases h1 : k = 3
 ·subst h1;go_enter Tryz.func285, Tryz.ntmps285;go_wp2;go_ret
  exact ⟨rfl, rfl⟩
 ·have h1b : (k == 3) = false := beq_false_of_ne h1;by_cases h2 : k = 4
  ·subst h2;go_enter Tryz.func285, Tryz.ntmps285;go_wp2;go_ret
   exact ⟨rfl, rfl⟩
  ·have h2b : (k == 4) = false := beq_false_of_ne h2;have HV : Hid (pby k = false) := by unfold Hid pby; simp [h1, h2]
   go_enter Tryz.func285, Tryz.ntmps285;go_wp2;go_ret
   exact ⟨zAl HV.out.symm, rfl⟩
theorem zCU (k f : Int) (w : World) : Calls Tryz.prog 265 #[.int .i64 k, .int .i64 f] w fun e w' => e = .returned (.bool (askB k f)) ∧ w' = w := by
 unfold askB;cases h1 : cby k
 ·cases h2 : pby k
  ·go_enter Tryz.func265, Tryz.ntmps265;go_wp2_with (first | (go_at_call 284; refine (zDJ _ _).mono ?_; rintro e w' ⟨rfl, rfl⟩) | (go_at_call 231; refine (zB7 _ _).mono ?_; rintro e w' ⟨rfl, rfl⟩) | (go_at_call 285; refine (zCT _ _).mono ?_; rintro e w' ⟨rfl, rfl⟩))
   go_ret
   exact ⟨rfl, rfl⟩
  ·by_cases h3 : f = 5
   ·subst h3;go_enter Tryz.func265, Tryz.ntmps265;go_wp2_with (first | (go_at_call 284; refine (zDJ _ _).mono ?_; rintro e w' ⟨rfl, rfl⟩) | (go_at_call 231; refine (zB7 _ _).mono ?_; rintro e w' ⟨rfl, rfl⟩) | (go_at_call 285; refine (zCT _ _).mono ?_; rintro e w' ⟨rfl, rfl⟩))
    go_ret
    exact ⟨rfl, rfl⟩
   ·have h3b : (f == 5) = false := beq_false_of_ne h3;have HV : Hid (((false && zA8 f 0 3) || (true && decide (f = 5))) = false) := by unfold Hid; simp [h3]
    rw [HV.out];go_enter Tryz.func265, Tryz.ntmps265;go_wp2_with (first | (go_at_call 284; refine (zDJ _ _).mono ?_; rintro e w' ⟨rfl, rfl⟩) | (go_at_call 231; refine (zB7 _ _).mono ?_; rintro e w' ⟨rfl, rfl⟩) | (go_at_call 285; refine (zCT _ _).mono ?_; rintro e w' ⟨rfl, rfl⟩))
    go_ret
    exact ⟨rfl, rfl⟩
 ·cases h2 : zA8 f 0 3
  ·cases h4 : pby k
   ·go_enter Tryz.func265, Tryz.ntmps265;go_wp2_with (first | (go_at_call 284; refine (zDJ _ _).mono ?_; rintro e w' ⟨rfl, rfl⟩) | (go_at_call 231; refine (zB7 _ _).mono ?_; rintro e w' ⟨rfl, rfl⟩) | (go_at_call 285; refine (zCT _ _).mono ?_; rintro e w' ⟨rfl, rfl⟩))
    go_ret
    exact ⟨rfl, rfl⟩
   ·exfalso
    simp [cby, pby] at h1 h4
    omega
  ·go_enter Tryz.func265, Tryz.ntmps265;go_wp2_with (first | (go_at_call 284; refine (zDJ _ _).mono ?_; rintro e w' ⟨rfl, rfl⟩) | (go_at_call 231; refine (zB7 _ _).mono ?_; rintro e w' ⟨rfl, rfl⟩) | (go_at_call 285; refine (zCT _ _).mono ?_; rintro e w' ⟨rfl, rfl⟩))
   go_ret
   exact ⟨rfl, rfl⟩
theorem zDq (k l : Int) (w : World) : Calls Tryz.prog 266 #[.int .i64 k, .int .i64 l] w fun e w' => e = .returned (.bool (zO5 k l)) ∧ w' = w := by
 unfold zO5;cases h1 : pby k
 ·go_enter Tryz.func266, Tryz.ntmps266;go_wp2_with (first | (go_at_call 285; refine (zCT _ _).mono ?_; rintro e w' ⟨rfl, rfl⟩) | (go_at_call 76; refine (zAw _ _ _ _).mono ?_; rintro e w' ⟨rfl, rfl⟩))
  go_ret
  exact ⟨rfl, rfl⟩
 ·go_enter Tryz.func266, Tryz.ntmps266;go_wp2_with (first | (go_at_call 285; refine (zCT _ _).mono ?_; rintro e w' ⟨rfl, rfl⟩) | (go_at_call 76; refine (zAw _ _ _ _).mono ?_; rintro e w' ⟨rfl, rfl⟩))
  go_ret
  exact ⟨rfl, rfl⟩
theorem zIt (o s k f l m : Int) (b : Bool) (d : List Int) (a : Option Addr) (cap : Nat) (w : World) :
    Calls Tryz.prog 241 #[.agg #[.int .i64 o, .int .i64 s, .bool b, .int .i64 k, .int .i64 f, .int .i64 l, .int .i64 m, .slice a d.length cap]] w fun e w' => e = .returned (.bool (zLE o s)) ∧ Below w.heap.size w w' := by
 have HB : Hid _ := zAf w;cases h1 : zA8 o 0 3
 ·by_cases h2 : o = -1
  ·subst h2;have HV : Hid (zLE (-1) s = zA8 s 0 15) := by unfold Hid zLE; simp [h1]
   rw [HV.out];go_enter Tryz.func241, Tryz.ntmps241;go_wp2_with (first | (go_at_call 231; refine (zB7 _ _).mono ?_; rintro e w' ⟨rfl, rfl⟩) | (go_at_call 76; refine (zAw _ _ _ _).mono ?_; rintro e w' ⟨rfl, rfl⟩))
   go_ret
   exact ⟨rfl, HB.out _⟩
  ·have h2b : (o == -1) = false := beq_false_of_ne h2;have HV : Hid (zLE o s = false) := by unfold Hid zLE; simp [h1, h2]
   rw [HV.out];go_enter Tryz.func241, Tryz.ntmps241;go_wp2_with (first | (go_at_call 231; refine (zB7 _ _).mono ?_; rintro e w' ⟨rfl, rfl⟩) | (go_at_call 76; refine (zAw _ _ _ _).mono ?_; rintro e w' ⟨rfl, rfl⟩))
   go_ret
   exact ⟨rfl, HB.out _⟩
 ·by_cases h2 : s = 0
  ·subst h2;have HV : Hid (zLE o 0 = true) := by unfold Hid zLE; simp [h1]
   rw [HV.out];go_enter Tryz.func241, Tryz.ntmps241;go_wp2_with (first | (go_at_call 231; refine (zB7 _ _).mono ?_; rintro e w' ⟨rfl, rfl⟩) | (go_at_call 76; refine (zAw _ _ _ _).mono ?_; rintro e w' ⟨rfl, rfl⟩))
   go_ret
   exact ⟨rfl, HB.out _⟩
  ·have h2b : (s == 0) = false := beq_false_of_ne h2;have HV : Hid (zLE o s = false) := by unfold Hid zLE; simp [h1, h2]
   rw [HV.out];go_enter Tryz.func241, Tryz.ntmps241;go_wp2_with (first | (go_at_call 231; refine (zB7 _ _).mono ?_; rintro e w' ⟨rfl, rfl⟩) | (go_at_call 76; refine (zAw _ _ _ _).mono ?_; rintro e w' ⟨rfl, rfl⟩))
   go_ret
   exact ⟨rfl, HB.out _⟩
theorem zKG {k f l : Int} (h : ¬ k = 0 ∨ ¬ f = 0 ∨ ¬ l = 0) : zID false k f l = false := by
 unfold zID;rw [if_neg (by decide)];rcases h with h | h | h <;> simp [h]
theorem zIu (o s k f l m : Int) (b : Bool) (d : List Int) (a : Option Addr) (cap : Nat) (w : World) :
    Calls Tryz.prog 242 #[.agg #[.int .i64 o, .int .i64 s, .bool b, .int .i64 k, .int .i64 f, .int .i64 l, .int .i64 m, .slice a d.length cap]] w fun e w' => e = .returned (.bool (zID b k f l)) ∧ Below w.heap.size w w' := by
 have HB : Hid _ := zAf w;cases b
 ·skip
  by_cases hk : k = 0
  ·subst hk;by_cases hf : f = 0
   ·subst hf;by_cases hl : l = 0
    ·subst hl;go_enter Tryz.func242, Tryz.ntmps242;go_wp2_with (first | (go_at_call 265; refine (zCU _ _ _).mono ?_; rintro e w' ⟨rfl, rfl⟩) | (go_at_call 266; refine (zDq _ _ _).mono ?_; rintro e w' ⟨rfl, rfl⟩))
     go_ret
     exact ⟨rfl, HB.out _⟩
    ·have hlb : (l == 0) = false := beq_false_of_ne hl;have HV : Hid (zID false 0 0 l = false) := zKG (.inr (.inr hl));rw [HV.out];go_enter Tryz.func242, Tryz.ntmps242;go_wp2_with (first | (go_at_call 265; refine (zCU _ _ _).mono ?_; rintro e w' ⟨rfl, rfl⟩) | (go_at_call 266; refine (zDq _ _ _).mono ?_; rintro e w' ⟨rfl, rfl⟩))
     go_ret
     exact ⟨rfl, HB.out _⟩
   ·have hfb : (f == 0) = false := beq_false_of_ne hf;have HV : Hid (zID false 0 f l = false) := zKG (.inr (.inl hf));rw [HV.out];go_enter Tryz.func242, Tryz.ntmps242;go_wp2_with (first | (go_at_call 265; refine (zCU _ _ _).mono ?_; rintro e w' ⟨rfl, rfl⟩) | (go_at_call 266; refine (zDq _ _ _).mono ?_; rintro e w' ⟨rfl, rfl⟩))
    go_ret
    exact ⟨rfl, HB.out _⟩
  ·have hkb : (k == 0) = false := beq_false_of_ne hk;have HV : Hid (zID false k f l = false) := zKG (.inl hk);rw [HV.out];go_enter Tryz.func242, Tryz.ntmps242;go_wp2_with (first | (go_at_call 265; refine (zCU _ _ _).mono ?_; rintro e w' ⟨rfl, rfl⟩) | (go_at_call 266; refine (zDq _ _ _).mono ?_; rintro e w' ⟨rfl, rfl⟩))
   go_ret
   exact ⟨rfl, HB.out _⟩
 ·cases h1 : askB k f
  ·have HV : Hid (zID true k f l = false) := by unfold Hid zID; simp [h1]
   rw [HV.out];go_enter Tryz.func242, Tryz.ntmps242;go_wp2_with (first | (go_at_call 265; refine (zCU _ _ _).mono ?_; rintro e w' ⟨rfl, rfl⟩) | (go_at_call 266; refine (zDq _ _ _).mono ?_; rintro e w' ⟨rfl, rfl⟩))
   go_ret
   exact ⟨rfl, HB.out _⟩
  ·have HV : Hid (zID true k f l = zO5 k l) := by unfold Hid zID; simp [h1]
   rw [HV.out];go_enter Tryz.func242, Tryz.ntmps242;go_wp2_with (first | (go_at_call 265; refine (zCU _ _ _).mono ?_; rintro e w' ⟨rfl, rfl⟩) | (go_at_call 266; refine (zDq _ _ _).mono ?_; rintro e w' ⟨rfl, rfl⟩))
   go_ret
   exact ⟨rfl, HB.out _⟩
theorem zMD (o s k f l m : Int) (b : Bool) (d : List Int) (a : Option Addr) (cap : Nat) (w : World) (h : zA4 zAG w a d) :
    Calls Tryz.prog 243 #[.agg #[.int .i64 o, .int .i64 s, .bool b, .int .i64 k, .int .i64 f, .int .i64 l, .int .i64 m, .slice a d.length cap]] w fun e w' => e = .returned (.bool (zIE k m d)) ∧ Below w.heap.size w w' := by
 have HB : Hid _ := zAf w;have HL : Hid _ := fun (W : World) (hb : Below w.heap.size w W) => zBK a d cap W (zBv (zAm h hb));clear h;by_cases h1 : k = 4
 ·subst h1;cases h2 : zA8 m 0 3
  ·have HV : Hid (zIE 4 m d = false) := by unfold Hid zIE; simp [h2]
   rw [HV.out];go_enter Tryz.func243, Tryz.ntmps243;go_wp2_with (first | (go_at_call 233; refine (zDn _ _).mono ?_; rintro e w' ⟨rfl, rfl⟩) | (go_at_call 224; refine (HL.out _ (HB.out _)).mono ?_; rintro e w' ⟨rfl, hb⟩))
   go_ret
   exact ⟨rfl, HB.out _⟩
  ·have HV : Hid (zIE 4 m d = isL d) := by unfold Hid zIE; simp [h2]
   rw [HV.out];go_enter Tryz.func243, Tryz.ntmps243;go_wp2_with (first | (go_at_call 233; refine (zDn _ _).mono ?_; rintro e w' ⟨rfl, rfl⟩) | (go_at_call 224; refine (HL.out _ (HB.out _)).mono ?_; rintro e w' ⟨rfl, hb⟩))
   go_ret
   exact ⟨rfl, zAa (HB.out _) hb⟩
 ·have h1b : (k == 4) = false := beq_false_of_ne h1;clear HL;by_cases h2 : m = 0
  ·subst h2;by_cases h9 : d.length = 0
   ·have hz5 : d = [] := List.eq_nil_of_length_eq_zero h9;subst hz5;have HV : Hid (zIE k 0 ([] : List Int) = true) := by unfold Hid zIE; simp [h1]
    rw [HV.out];go_enter Tryz.func243, Tryz.ntmps243;go_wp2_with (first | (go_at_call 233; refine (zDn _ _).mono ?_; rintro e w' ⟨rfl, rfl⟩))
    go_ret
    exact ⟨rfl, HB.out _⟩
   ·have hz4 : ¬ (d = []) := fun e => h9 (by rw [e]; rfl);have hz : ¬ ((d.length : Int) = 0) := by omega
    have hz2 : ((d.length : Int) == 0) = false := beq_false_of_ne hz;have HV : Hid (zIE k 0 d = false) := by unfold Hid zIE; simp [h1, h9]
    rw [HV.out];go_enter Tryz.func243, Tryz.ntmps243;go_wp2_with (first | (go_at_call 233; refine (zDn _ _).mono ?_; rintro e w' ⟨rfl, rfl⟩))
    go_ret
    exact ⟨rfl, HB.out _⟩
  ·have h2b : (m == 0) = false := beq_false_of_ne h2;have HV : Hid (zIE k m d = false) := by unfold Hid zIE; simp [h1, h2]
   rw [HV.out];go_enter Tryz.func243, Tryz.ntmps243;go_wp2_with (first | (go_at_call 233; refine (zDn _ _).mono ?_; rintro e w' ⟨rfl, rfl⟩))
   go_ret
   exact ⟨rfl, HB.out _⟩
theorem zEz (o s k f l m : Int) (b : Bool) (d : List Int) (a : Option Addr) (cap : Nat) (w : World) (h : zA4 zAG w a d) :
    Calls Tryz.prog 206 #[.agg #[.int .i64 o, .int .i64 s, .bool b, .int .i64 k, .int .i64 f, .int .i64 l, .int .i64 m, .slice a d.length cap]] w fun e w' => e = .returned (.bool (zDD (o, s, b, k, f, l, m, d))) ∧ Below w.heap.size w w' := by
 have HD : Hid _ := fun (W : World) (hb : Below w.heap.size w W) => zMD o s k f l m b d a cap W (zAm h hb);have HR : Hid (∀ W, Calls Tryz.prog 242 #[.agg #[.int .i64 o, .int .i64 s, .bool b, .int .i64 k, .int .i64 f, .int .i64 l, .int .i64 m, .slice a d.length cap]] W fun e w' => e = .returned (.bool (zID b k f l)) ∧ Below W.heap.size W w') := fun W => zIu o s k f l m b d a cap W;have HH : Hid (∀ W, Calls Tryz.prog 241 #[.agg #[.int .i64 o, .int .i64 s, .bool b, .int .i64 k, .int .i64 f, .int .i64 l, .int .i64 m, .slice a d.length cap]] W fun e w' => e = .returned (.bool (zLE o s)) ∧ Below W.heap.size W w') := fun W => zIt o s k f l m b d a cap W;clear h;rw [zO6];generalize zLE o s = p at HH ⊢;generalize zID b k f l = q at HR ⊢;generalize zIE k m d = r at HD ⊢;go_enter Tryz.func206, Tryz.ntmps206;go_wp2_with fail
 generalize hW0 : w.alloc _ = W0;have X := boxH hW0;have B := boxB hW0;clear hW0;refine (HH.out _).mono ?_;rintro e w1 ⟨rfl, b1⟩;replace X := zAb b1 X;replace B := zAa B b1;obtain ⟨x0, x1, x2, x3, x4, x5, x6, x7⟩ := zCi X;clear b1 HH;cases p
 ·clear HR HD X;go_wp2_with fail
  go_ret
  exact ⟨rfl, B⟩
 ·go_wp2_with fail
  refine (HR.out _).mono ?_;rintro e w2 ⟨rfl, b2⟩;clear x0 x1 x2 x3 x4 x5 x6 x7 HR;replace X := zAb b2 X;replace B := zAa B b2;obtain ⟨x0, x1, x2, x3, x4, x5, x6, x7⟩ := zCi X;clear b2;cases q
  ·clear HD X;go_wp2_with fail
   go_ret
   exact ⟨rfl, B⟩
  ·go_wp2_with fail
   refine (HD.out _ B).mono ?_;rintro e w3 ⟨rfl, b3⟩;replace B := zAa B b3;clear b3 HD X x0 x1 x2 x3 x4 x5 x6 x7;go_wp2_with fail
   go_ret
   exact ⟨rfl, B⟩
theorem Tryz.infoI64 : (Tryz.prog.info? 2).map (fun i => (i.zero, i.size, i.bytes)) = some (some (.int .i64 0), 1, 8) := by kernel_rfl
def zO7 (s : Int) : Nat → List Int
 | 0 => []
 | k + 1 => if inB s k then zO7 s k ++ [(k : Int)] else zO7 s k
theorem zO8 (s : Int) : ∀ k, (zO7 s k).length ≤ k
 | 0 => Nat.le_refl _
 | k + 1 => by
  have := zO8 s k;unfold zO7;split
  ·simp; omega
  ·omega
theorem zJ6 {w : World} {B : Nat} {e : TypeId} {v : Value} {n : Nat} {xs : List Value} (h : w.ownsRow B e 1 v n xs) (hv : v ≠ .slice none 0 0) :
    ∃ g a, v = .slice (some ⟨g, 0, none⟩) n a ∧ B ≤ g ∧ g < w.heap.size ∧ n ≤ a ∧ a ≤ maxLen := by
 rcases h.2 with ⟨rfl, _⟩ | ⟨g, a, d, rfl, b, c, i, f, _⟩
 ·exact absurd rfl hv
 ·exact ⟨g, a, rfl, b, (ltH c), i, f⟩
def zO9 (o c : Int) : Bool := zA8 c 0 3 && decide (c = o)
def holB (o s c : Int) : Bool := zO9 o c || inB s c
def zFi (o s : Int) : Nat → List Int
 | 0 => []
 | k + 1 => if holB o s k then zFi o s k ++ [(k : Int)] else zFi o s k
theorem zOA (o s : Int) : ∀ k, (zFi o s k).length ≤ k
 | 0 => Nat.le_refl _
 | k + 1 => by
  have := zOA o s k;unfold zFi;split
  ·simp; omega
  ·omega
theorem holL_hit {o s : Int} {k : Nat} (h : holB o s k = true) : zFi o s (k + 1) = zFi o s k ++ [(k : Int)] := by simp [zFi, h]
theorem zOB {o s : Int} {k : Nat} (h : holB o s k = false) : zFi o s (k + 1) = zFi o s k := by simp [zFi, h]
def hoI (o s : Int) : List Int := if 0 ≤ o then [o] else zO7 s 8
theorem zOC {o s : Int} (h : zBw o s = true) (ho : 0 ≤ o) : s = 0 := by
 simp [zBw] at h
 have := h.2.2;omega
theorem zJ7 (s : Int) : ∀ k, zFi (-1) s k = zO7 s k
 | 0 => rfl
 | k + 1 => by
  have e : holB (-1) s k = inB s k := by
   unfold holB zO9;rw [show decide ((k : Int) = -1) = false from decide_eq_false (by omega)];simp
  unfold zFi zO7;rw [e, zJ7 s k]
theorem holL_fin : ∀ o : Fin 4, zFi (o.val : Int) 0 8 = [(o.val : Int)] := by decide +kernel
theorem holL_eq {o s : Int} (h : zBw o s = true) : zFi o s 8 = hoI o s := by
 unfold hoI;by_cases a : 0 ≤ o
 ·rw [if_pos a, zOC h a];have b : o ≤ 3 := by simp [zBw, zA8] at h; omega
  have := holL_fin ⟨o.toNat, by omega⟩;simpa [Int.toNat_of_nonneg a] using this
 ·rw [if_neg a];have b : o = -1 := by simp [zBw, zA8] at h; omega
  rw [b];exact zJ7 s 8
theorem cells_2p {w : World} {g : Nat} {x0 x1 : Value} {t : TypeId} (h : w.heap[g]? = some (.cells #[x0, x1] t (0, 0))) :
    w.cell? ⟨g, 0, none⟩ = some x0 ∧ w.cell? ⟨g, 1, none⟩ = some x1 :=
 ⟨by rw [cell_of_row w g 0 _ t (0, 0) h]; rfl, by rw [cell_of_row w g 1 _ t (0, 0) h]; rfl⟩
theorem owns_any (o s c : Int) (w : World) :
    Calls Tryz.prog 244 #[.agg #[.int .i64 s, .int .i64 o], .int .i64 c] w fun e b => e = .returned (.bool (zO9 o c)) ∧ Below w.heap.size w b := by
 have f : Hid _ := zAf w;cases d : zA8 c 0 3
 ·have a : Hid (zO9 o c = false) := by unfold Hid zO9; simp [d]
  rw [a.out];go_enter Tryz.func244, Tryz.ntmps244;go_wp2_with (go_at_call 231; refine (zB7 _ _).mono ?_; rintro e b ⟨rfl, rfl⟩)
  go_ret
  exact ⟨rfl, f.out _⟩
 ·have a : Hid (zO9 o c = (c == o)) := by unfold Hid zO9; rw [d]; by_cases e : c = o <;> simp [e]
  rw [a.out];generalize (c == o) = t at a ⊢;by_cases i : c = o
  ·subst i;have g : t = true := by rw [← a.out]; unfold zO9; simp [d]
   subst g;clear a;go_enter Tryz.func244, Tryz.ntmps244;go_wp2_with (go_at_call 231; refine (zB7 _ _).mono ?_; rintro e b ⟨rfl, rfl⟩)
   go_ret
   exact ⟨rfl, f.out _⟩
  ·have j : (c == o) = false := beq_false_of_ne i;have g : t = false := by rw [← a.out]; unfold zO9; simp [i]
   subst g;clear a;go_enter Tryz.func244, Tryz.ntmps244;go_wp2_with (go_at_call 231; refine (zB7 _ _).mono ?_; rintro e b ⟨rfl, rfl⟩)
   go_ret
   exact ⟨rfl, f.out _⟩
theorem zOD (o s c : Int) (w : World) :
    Calls Tryz.prog 211 #[.agg #[.int .i64 s, .int .i64 o], .int .i64 c] w fun e b => e = .returned (.bool (holB o s c)) ∧ Below w.heap.size w b := by
 have f : Hid (∀ W, Calls Tryz.prog 244 #[.agg #[.int .i64 s, .int .i64 o], .int .i64 c] W fun e b => e = .returned (.bool (zO9 o c)) ∧ Below W.heap.size W b) := fun W => owns_any o s c W;unfold holB;generalize zO9 o c = p at f ⊢;go_enter Tryz.func211, Tryz.ntmps211;go_wp2_with fail
 generalize a : w.alloc _ = W0;have X := boxH a;have B := boxB a;clear a;refine (f.out _).mono ?_;rintro e w1 ⟨rfl, d⟩;replace X := zAb d X;replace B := zAa B d;obtain ⟨x0, x1⟩ := cells_2p X;clear d f X;cases p
 ·go_wp2_with (go_at_call 245; refine (has_any _ _ _).mono ?_; rintro e b ⟨rfl, rfl⟩)
  go_ret
  exact ⟨rfl, B⟩
 ·go_wp2_with fail
  go_ret
  exact ⟨rfl, B⟩
theorem zKH (o s : Int) (w : World) :
    Calls Tryz.prog 209 #[.func (.func 211) #[.agg #[.int .i64 s, .int .i64 o]] #[]] w fun e B => ∃ v, e = .returned v ∧ zIJ w B v (zFi o s 8) := by
 obtain ⟨Y, S, I, K, E⟩ := info_parts Tryz.infoI64;go_enter Tryz.func209, Tryz.ntmps209;go_wp2;go_loopw [3, 4] (fun v i wr => ∃ k : Nat, k ≤ 8 ∧ i = .int .i64 k ∧ v ≠ .slice none 0 0 ∧ wr.ownsRow w.heap.size 2 1 v (zFi o s k).length ((zFi o s k).map (Value.int .i64)) ∧ Below w.heap.size w wr)
  (fun _ i _ => 8 - (intOf i).toNat)
 case atStart => exact ⟨0, by omega, rfl, by simp, World.ownsRow_lit _ #[] 0 (Nat.le_refl _) (Nat.zero_le _) rfl, (Below.refl _ _).alloc (Nat.le_refl _) _⟩
 case round =>
  obtain ⟨k, hk, rfl, D, a, c⟩ := hrel;have U := zOA o s k;have Z := c.size;by_cases T : k < 8
  ·have G : Hid (∀ W, Calls Tryz.prog 211 #[.agg #[.int .i64 s, .int .i64 o], .int .i64 (k : Int)] W fun e B => e = .returned (.bool (holB o s k)) ∧ Below W.heap.size W B) := fun W => zOD o s k W;have O : Hid (∀ b, holB o s k = b → if b then zFi o s (k + 1) = zFi o s k ++ [(k : Int)] else zFi o s (k + 1) = zFi o s k) := fun b e => by
    cases b
    ·exact zOB e
    ·exact holL_hit e
   obtain ⟨q, J⟩ : ∃ q, holB o s k = q := ⟨_, rfl⟩;rw [J] at G;have C := O.out q J;clear O J;obtain ⟨g, cp, rfl, z, l, aA, V⟩ := zJ6 a D;cases q
   ·have p : Hid (zFi o s (k + 1) = zFi o s k) := C;clear C;go_wp2_with (go_at_call 211; refine (G.out _).mono ?_; rintro e B ⟨rfl, n⟩; replace a := zGs a n l; replace c := zAa c n; clear n)
    go_roundw
    case rel => exact ⟨k + 1, by omega, by go_num, D, by rw [p.out]; exact a, c⟩
    case measure => simp [intOf]; omega
   ·have p : Hid (zFi o s (k + 1) = zFi o s k ++ [(k : Int)]) := C;clear C;go_wp2_with fail
    refine (G.out _).mono ?_;rintro e w2 ⟨rfl, n⟩;replace a := zGs a n l;replace c := zAa c n;have A := c.size;clear n l;go_wp2_with (at_builtin; refine wpList_append_own _ rfl _ _ 37 rfl w.heap.size 2 Y (.int .i64 0) 1 8 Tryz.underlying37 S I K E rfl (by decide) _ _ _ rfl (a.alloc _) ⟨_, 0, none⟩ 1 1 [.int .i64 (k : Int)] rfl rfl ?c1 ?c2 ?c3 ?c4 ?c5 ?_)
    case c1 =>
     intro j u r;match j, r with
     | 0, r => simp at r; subst r; simp [Addr.add]
    case c2 => intro u L; simp at L; subst L; rfl
    case c3 => unfold maxLen; omega
    case c4 => omega
    case c5 => simp; omega
    ·intro M N f d m;have R : N.ownsRow w.heap.size 2 1 M (zFi o s (k + 1)).length ((zFi o s (k + 1)).map (Value.int .i64)) ∧ Below w.heap.size w N :=
      ⟨by rw [p.out]; simpa using f, (c.alloc A _).grown d (by simp; omega) (fun j r => (a.lt j r).1)⟩
     have H : M ≠ .slice none 0 0 := m;clear f d a m;go_wp2;go_roundw
     case rel => exact ⟨k + 1, by omega, by go_num, H, R.1, R.2⟩
     case measure => simp [intOf]; omega
  ·have F : k = 8 := by omega
   subst F;obtain ⟨g, y, rfl, z, l, _⟩ := zJ6 a D;have X : Hid (zIJ w wr (.slice (some ⟨g, 0, none⟩) (zFi o s 8).length y) (zFi o s 8)) := ⟨g, y, rfl, z, l, a, c⟩;clear a c D;go_wp2;go_ret
   exact ⟨_, rfl, X.out⟩
theorem page_any (o s k f l m : Int) (b : Bool) (v : Value) (w : World) :
    Calls Tryz.prog 210 #[.agg #[.int .i64 o, .int .i64 s, .bool b, .int .i64 k, .int .i64 f, .int .i64 l, .int .i64 m, v]] w fun e w' => e = .returned (.agg #[.int .i64 s, .int .i64 o]) ∧ Below w.heap.size w w' := by
 have a : Hid (∀ x y, Below w.heap.size w ((w.alloc x).alloc y)) := fun x y => zAa (zAf w x) (zAf _ y);go_enter Tryz.func210, Tryz.ntmps210;go_wp2;refine bodyPost_ret (v := .agg #[.int .i64 s, .int .i64 o]) (by simp [results, Tryz.results210, go_sem]) rfl ⟨rfl, a.out _ _⟩
end Go.Proofs.YtcocbafhcpdheaaGreatDoor
