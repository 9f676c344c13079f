import Derived.Test.YtmaopldahnejdaaGreatDoorG00Box
import Derived.Test.YtmaopldahnejdaaGreatDoorG04
import Derived.Laws.IdiomCopy
import Derived.Laws.Slices
namespace Go.Proofs.YtmaopldahnejdaaGreatDoor
set_option maxHeartbeats 4000000
open Go.ChangeShapes Go.WideShapes Go.ChangeAt Go.RowKit
set_option linter.unusedVariables false
def cby (k : Int) : Bool := decide (k = 1) || decide (k = 2)
def pby (k : Int) : Bool := decide (k = 3) || decide (k = 4)
def zIL (k f : Int) : Bool := (cby k && zA6 f 0 3) || (pby k && decide (f = 5))
def zKS (k l : Int) : Bool := if pby k then zA6 l 1 4 else zA6 l 0 4
def zJ7 (o s : Int) : Bool := if zA6 o 0 3 then decide (s = 0) else decide (o = -1) && zA6 s 0 15
def zHU (b : Bool) (k f l : Int) : Bool := if b then zIL k f && zKS k l else decide (k = 0) && (decide (f = 0) && decide (l = 0))
def zHs (k m : Int) (d : List Int) : Bool := if k = 4 then zA6 m 0 3 && isL d else decide (m = 0) && decide (d.length = 0)
theorem who_eq (o s : Int) : zAI o s = zJ7 o s := by
 unfold zAI zJ7 zA6;rw [Bool.eq_iff_iff];by_cases h : 0 ≤ o ∧ o ≤ 3
 ·rw [if_pos (by simpa using h)];simp
  omega
 ·rw [if_neg (by simpa using h)];simp
  omega
theorem req_eq (b : Bool) (k f l m : Int) (d : List Int) : (if b then zAA k f l m d else zAY k f l m d) = (zHU b k f l && zHs k m d) := by
 cases b
 ·show zAY k f l m d = (zHU false k f l && zHs k m d)
  unfold zAY zHU zHs;generalize decide (d.length = 0) = z;by_cases h : k = 4
  ·subst h; simp
  ·rw [if_neg (by decide), if_neg h];cases z <;> simp [Bool.and_assoc]
 ·show zAA k f l m d = (zHU true k f l && zHs k m d)
  unfold zAA zHU zHs zBS zCo zIL zKS cby pby zA6;generalize decide (d.length = 0) = z;generalize isL d = y;cases z <;> cases y
  all_goals
   by_cases a : k = 1
   ·subst a; rw [Bool.eq_iff_iff]; simp <;> omega
   ·by_cases i : k = 2
    ·subst i; rw [Bool.eq_iff_iff]; simp <;> omega
    ·by_cases g : k = 3
     ·subst g; rw [Bool.eq_iff_iff]; simp <;> omega
     ·by_cases c : k = 4
      ·subst c; rw [Bool.eq_iff_iff]; simp <;> omega
      ·rw [Bool.eq_iff_iff];simp [a, i, g, c]
       try omega
theorem zKT (o s : Int) (b : Bool) (k f l m : Int) (d : List Int) : zBR (o, s, b, k, f, l, m, d) = (zJ7 o s && (zHU b k f l && zHs k m d)) := by
 rw [eb, who_eq, req_eq]
theorem zBo (c : Int) (w : World) : Calls Tryz.prog 145 #[nI c] w fun e a => e = .returned (.bool (zA6 c 0 3)) ∧ a = w := by
 go_enter Tryz.func145, Tryz.ntmps145;go_wp2_with (go_at_call 91; refine (zA8 _ _ _ _).mono ?_; rintro e a ⟨rfl, rfl⟩)
 go_ret
 exact ⟨rfl, rfl⟩
theorem zDI (k : Int) (w : World) : Calls Tryz.prog 171 #[nI k] w fun e w' => e = .returned (.bool (cby k)) ∧ w' = w := by
 by_cases a : k = 1
 ·subst a;go_enter Tryz.func171, Tryz.ntmps171;go_wp2;go_ret
  exact ⟨rfl, rfl⟩
 ·have f : (k == 1) = false := beq_false_of_ne a;by_cases b : k = 2
  ·subst b;go_enter Tryz.func171, Tryz.ntmps171;go_wp2;go_ret
   exact ⟨rfl, rfl⟩
  ·have d : (k == 2) = false := beq_false_of_ne b;have c : Hid (cby k = false) := by unfold Hid cby; simp [a, b]
   go_enter Tryz.func171, Tryz.ntmps171;go_wp2;go_ret
   exact ⟨zAJ c.out.symm, rfl⟩
theorem zC9 (k : Int) (w : World) : Calls Tryz.prog 172 #[nI k] w fun e w' => e = .returned (.bool (pby k)) ∧ w' = w := by
 by_cases a : k = 3
 ·subst a;go_enter Tryz.func172, Tryz.ntmps172;go_wp2;go_ret
  exact ⟨rfl, rfl⟩
 ·have f : (k == 3) = false := beq_false_of_ne a;by_cases b : k = 4
  ·subst b;go_enter Tryz.func172, Tryz.ntmps172;go_wp2;go_ret
   exact ⟨rfl, rfl⟩
  ·have d : (k == 4) = false := beq_false_of_ne b;have c : Hid (pby k = false) := by unfold Hid pby; simp [a, b]
   go_enter Tryz.func172, Tryz.ntmps172;go_wp2;go_ret
   exact ⟨zAJ c.out.symm, rfl⟩
theorem zBZ (k f : Int) (w : World) : Calls Tryz.prog 153 #[nI k, nI f] w fun e a => e = .returned (.bool (zIL k f)) ∧ a = w := by
 unfold zIL;cases c : cby k
 ·cases j : pby k
  ·go_enter Tryz.func153, Tryz.ntmps153;go_wp2_with (first | (go_at_call 171; refine (zDI _ _).mono ?_; rintro e a ⟨rfl, rfl⟩) | (go_at_call 145; refine (zBo _ _).mono ?_; rintro e a ⟨rfl, rfl⟩) | (go_at_call 172; refine (zC9 _ _).mono ?_; rintro e a ⟨rfl, rfl⟩))
   go_ret
   exact ⟨rfl, rfl⟩
  ·by_cases b : f = 5
   ·subst b;go_enter Tryz.func153, Tryz.ntmps153;go_wp2_with (first | (go_at_call 171; refine (zDI _ _).mono ?_; rintro e a ⟨rfl, rfl⟩) | (go_at_call 145; refine (zBo _ _).mono ?_; rintro e a ⟨rfl, rfl⟩) | (go_at_call 172; refine (zC9 _ _).mono ?_; rintro e a ⟨rfl, rfl⟩))
    go_ret
    exact ⟨rfl, rfl⟩
   ·have i : (f == 5) = false := beq_false_of_ne b;have d : Hid (((false && zA6 f 0 3) || (true && decide (f = 5))) = false) := by unfold Hid; simp [b]
    rw [d.out];go_enter Tryz.func153, Tryz.ntmps153;go_wp2_with (first | (go_at_call 171; refine (zDI _ _).mono ?_; rintro e a ⟨rfl, rfl⟩) | (go_at_call 145; refine (zBo _ _).mono ?_; rintro e a ⟨rfl, rfl⟩) | (go_at_call 172; refine (zC9 _ _).mono ?_; rintro e a ⟨rfl, rfl⟩))
    go_ret
    exact ⟨rfl, rfl⟩
 ·cases j : zA6 f 0 3
  ·cases g : pby k
   ·go_enter Tryz.func153, Tryz.ntmps153;go_wp2_with (first | (go_at_call 171; refine (zDI _ _).mono ?_; rintro e a ⟨rfl, rfl⟩) | (go_at_call 145; refine (zBo _ _).mono ?_; rintro e a ⟨rfl, rfl⟩) | (go_at_call 172; refine (zC9 _ _).mono ?_; rintro e a ⟨rfl, rfl⟩))
    go_ret
    exact ⟨rfl, rfl⟩
   ·exfalso
    simp [cby, pby] at c g
    omega
  ·go_enter Tryz.func153, Tryz.ntmps153;go_wp2_with (first | (go_at_call 171; refine (zDI _ _).mono ?_; rintro e a ⟨rfl, rfl⟩) | (go_at_call 145; refine (zBo _ _).mono ?_; rintro e a ⟨rfl, rfl⟩) | (go_at_call 172; refine (zC9 _ _).mono ?_; rintro e a ⟨rfl, rfl⟩))
   go_ret
   exact ⟨rfl, rfl⟩
theorem zDj (k l : Int) (w : World) : Calls Tryz.prog 154 #[nI k, nI l] w fun e a => e = .returned (.bool (zKS k l)) ∧ a = w := by
 unfold zKS;cases h1 : pby k
 ·go_enter Tryz.func154, Tryz.ntmps154;go_wp2_with (first | (go_at_call 172; refine (zC9 _ _).mono ?_; rintro e a ⟨rfl, rfl⟩) | (go_at_call 91; refine (zA8 _ _ _ _).mono ?_; rintro e a ⟨rfl, rfl⟩))
  go_ret
  exact ⟨rfl, rfl⟩
 ·go_enter Tryz.func154, Tryz.ntmps154;go_wp2_with (first | (go_at_call 172; refine (zC9 _ _).mono ?_; rintro e a ⟨rfl, rfl⟩) | (go_at_call 91; refine (zA8 _ _ _ _).mono ?_; rintro e a ⟨rfl, rfl⟩))
  go_ret
  exact ⟨rfl, rfl⟩
theorem zHt (o s k f l m : Int) (b : Bool) (d : List Int) (a : Option Addr) (cap : Nat) (w : World) :
    Calls Tryz.prog 130 #[.agg #[nI o, nI s, .bool b, nI k, nI f, nI l, nI m, sL a d.length cap]] w fun e c => e = .returned (.bool (zJ7 o s)) ∧ Bl w c := by
 have n : Hid _ := zAg w;cases j : zA6 o 0 3
 ·by_cases i : o = -1
  ·subst i;have g : Hid (zJ7 (-1) s = zA6 s 0 15) := by unfold Hid zJ7; simp [j]
   rw [g.out];go_enter Tryz.func130, Tryz.ntmps130;go_wp2_with (first | (go_at_call 145; refine (zBo _ _).mono ?_; rintro e c ⟨rfl, rfl⟩) | (go_at_call 91; refine (zA8 _ _ _ _).mono ?_; rintro e c ⟨rfl, rfl⟩))
   go_ret
   exact ⟨rfl, n.out _⟩
  ·have p : (o == -1) = false := beq_false_of_ne i;have g : Hid (zJ7 o s = false) := by unfold Hid zJ7; simp [j, i]
   rw [g.out];go_enter Tryz.func130, Tryz.ntmps130;go_wp2_with (first | (go_at_call 145; refine (zBo _ _).mono ?_; rintro e c ⟨rfl, rfl⟩) | (go_at_call 91; refine (zA8 _ _ _ _).mono ?_; rintro e c ⟨rfl, rfl⟩))
   go_ret
   exact ⟨rfl, n.out _⟩
 ·by_cases i : s = 0
  ·subst i;have g : Hid (zJ7 o 0 = true) := by unfold Hid zJ7; simp [j]
   rw [g.out];go_enter Tryz.func130, Tryz.ntmps130;go_wp2_with (first | (go_at_call 145; refine (zBo _ _).mono ?_; rintro e c ⟨rfl, rfl⟩) | (go_at_call 91; refine (zA8 _ _ _ _).mono ?_; rintro e c ⟨rfl, rfl⟩))
   go_ret
   exact ⟨rfl, n.out _⟩
  ·have p : (s == 0) = false := beq_false_of_ne i;have g : Hid (zJ7 o s = false) := by unfold Hid zJ7; simp [j, i]
   rw [g.out];go_enter Tryz.func130, Tryz.ntmps130;go_wp2_with (first | (go_at_call 145; refine (zBo _ _).mono ?_; rintro e c ⟨rfl, rfl⟩) | (go_at_call 91; refine (zA8 _ _ _ _).mono ?_; rintro e c ⟨rfl, rfl⟩))
   go_ret
   exact ⟨rfl, n.out _⟩
theorem zIM {k f l : Int} (h : ¬ k = 0 ∨ ¬ f = 0 ∨ ¬ l = 0) : zHU false k f l = false := by
 unfold zHU;rw [if_neg (by decide)];rcases h with h | h | h <;> simp [h]
theorem zHu (o s k f l m : Int) (b : Bool) (d : List Int) (a : Option Addr) (cap : Nat) (w : World) :
    Calls Tryz.prog 131 #[.agg #[nI o, nI s, .bool b, nI k, nI f, nI l, nI m, sL a d.length cap]] w fun e c => e = .returned (.bool (zHU b k f l)) ∧ Bl w c := by
 have i : Hid _ := zAg w;cases b
 ·skip
  by_cases p : k = 0
  ·subst p;by_cases n : f = 0
   ·subst n;by_cases j : l = 0
    ·subst j;go_enter Tryz.func131, Tryz.ntmps131;go_wp2_with (first | (go_at_call 153; refine (zBZ _ _ _).mono ?_; rintro e c ⟨rfl, rfl⟩) | (go_at_call 154; refine (zDj _ _ _).mono ?_; rintro e c ⟨rfl, rfl⟩))
     go_ret
     exact ⟨rfl, i.out _⟩
    ·have v : (l == 0) = false := beq_false_of_ne j;have g : Hid (zHU false 0 0 l = false) := zIM (.inr (.inr j));rw [g.out];go_enter Tryz.func131, Tryz.ntmps131;go_wp2_with (first | (go_at_call 153; refine (zBZ _ _ _).mono ?_; rintro e c ⟨rfl, rfl⟩) | (go_at_call 154; refine (zDj _ _ _).mono ?_; rintro e c ⟨rfl, rfl⟩))
     go_ret
     exact ⟨rfl, i.out _⟩
   ·have y : (f == 0) = false := beq_false_of_ne n;have g : Hid (zHU false 0 f l = false) := zIM (.inr (.inl n));rw [g.out];go_enter Tryz.func131, Tryz.ntmps131;go_wp2_with (first | (go_at_call 153; refine (zBZ _ _ _).mono ?_; rintro e c ⟨rfl, rfl⟩) | (go_at_call 154; refine (zDj _ _ _).mono ?_; rintro e c ⟨rfl, rfl⟩))
    go_ret
    exact ⟨rfl, i.out _⟩
  ·have r : (k == 0) = false := beq_false_of_ne p;have g : Hid (zHU false k f l = false) := zIM (.inl p);rw [g.out];go_enter Tryz.func131, Tryz.ntmps131;go_wp2_with (first | (go_at_call 153; refine (zBZ _ _ _).mono ?_; rintro e c ⟨rfl, rfl⟩) | (go_at_call 154; refine (zDj _ _ _).mono ?_; rintro e c ⟨rfl, rfl⟩))
   go_ret
   exact ⟨rfl, i.out _⟩
 ·cases q : zIL k f
  ·have g : Hid (zHU true k f l = false) := by unfold Hid zHU; simp [q]
   rw [g.out];go_enter Tryz.func131, Tryz.ntmps131;go_wp2_with (first | (go_at_call 153; refine (zBZ _ _ _).mono ?_; rintro e c ⟨rfl, rfl⟩) | (go_at_call 154; refine (zDj _ _ _).mono ?_; rintro e c ⟨rfl, rfl⟩))
   go_ret
   exact ⟨rfl, i.out _⟩
  ·have g : Hid (zHU true k f l = zKS k l) := by unfold Hid zHU; simp [q]
   rw [g.out];go_enter Tryz.func131, Tryz.ntmps131;go_wp2_with (first | (go_at_call 153; refine (zBZ _ _ _).mono ?_; rintro e c ⟨rfl, rfl⟩) | (go_at_call 154; refine (zDj _ _ _).mono ?_; rintro e c ⟨rfl, rfl⟩))
   go_ret
   exact ⟨rfl, i.out _⟩
theorem zKg (o s k f l m : Int) (b : Bool) (d : List Int) (a : Option Addr) (cap : Nat) (w : World) (h : zBv zBf w a d) :
    Calls Tryz.prog 132 #[.agg #[nI o, nI s, .bool b, nI k, nI f, nI l, nI m, sL a d.length cap]] w fun e c => e = .returned (.bool (zHs k m d)) ∧ Bl w c := by
 have i : Hid _ := zAg w;have q : Hid (∀ W, Bl w W → Calls Tryz.prog 115 #[sL a d.length cap] W fun e c => e = .returned (.bool (isL d)) ∧ Bl W c) := fun W p => zCI a d cap W (zAM (zAt h p));clear h;by_cases n : k = 4
 ·subst n;cases j : zA6 m 0 3
  ·have g : Hid (zHs 4 m d = false) := by unfold Hid zHs; simp [j]
   rw [g.out];go_enter Tryz.func132, Tryz.ntmps132;go_wp2_with (first | (go_at_call 155; refine (zCe _ _).mono ?_; rintro e c ⟨rfl, rfl⟩) | (go_at_call 115; refine (q.out _ (i.out _)).mono ?_; rintro e c ⟨rfl, p⟩))
   go_ret
   exact ⟨rfl, i.out _⟩
  ·have g : Hid (zHs 4 m d = isL d) := by unfold Hid zHs; simp [j]
   rw [g.out];go_enter Tryz.func132, Tryz.ntmps132;go_wp2_with (first | (go_at_call 155; refine (zCe _ _).mono ?_; rintro e c ⟨rfl, rfl⟩) | (go_at_call 115; refine (q.out _ (i.out _)).mono ?_; rintro e c ⟨rfl, p⟩))
   go_ret
   exact ⟨rfl, zAa (i.out _) p⟩
 ·have C : (k == 4) = false := beq_false_of_ne n;clear q;by_cases j : m = 0
  ·subst j;by_cases v : d.length = 0
   ·have r : d = [] := List.eq_nil_of_length_eq_zero v;subst r;have g : Hid (zHs k 0 ([] : List Int) = true) := by unfold Hid zHs; simp [n]
    rw [g.out];go_enter Tryz.func132, Tryz.ntmps132;go_wp2_with (first | (go_at_call 155; refine (zCe _ _).mono ?_; rintro e c ⟨rfl, rfl⟩))
    go_ret
    exact ⟨rfl, i.out _⟩
   ·have z : ¬ (d = []) := fun e => v (by rw [e]; rfl);have y : ¬ ((d.length : Int) = 0) := by omega
    have A : ((d.length : Int) == 0) = false := beq_false_of_ne y;have g : Hid (zHs k 0 d = false) := by unfold Hid zHs; simp [n, v]
    rw [g.out];go_enter Tryz.func132, Tryz.ntmps132;go_wp2_with (first | (go_at_call 155; refine (zCe _ _).mono ?_; rintro e c ⟨rfl, rfl⟩))
    go_ret
    exact ⟨rfl, i.out _⟩
  ·have B : (m == 0) = false := beq_false_of_ne j;have g : Hid (zHs k m d = false) := by unfold Hid zHs; simp [n, j]
   rw [g.out];go_enter Tryz.func132, Tryz.ntmps132;go_wp2_with (first | (go_at_call 155; refine (zCe _ _).mono ?_; rintro e c ⟨rfl, rfl⟩))
   go_ret
   exact ⟨rfl, i.out _⟩
theorem zCv (o s k f l m : Int) (b : Bool) (d : List Int) (a : Option Addr) (cap : Nat) (w : World) (h : zBv zBf w a d) :
    Calls Tryz.prog 102 #[.agg #[nI o, nI s, .bool b, nI k, nI f, nI l, nI m, sL a d.length cap]] w fun e w' => e = .returned (.bool (zBR (o, s, b, k, f, l, m, d))) ∧ Bl w w' := by
 have g : Hid (∀ W, Bl w W → Calls Tryz.prog 132 #[.agg #[nI o, nI s, .bool b, nI k, nI f, nI l, nI m, sL a d.length cap]] W fun e w' => e = .returned (.bool (zHs k m d)) ∧ Bl W w') := fun W hb => zKg o s k f l m b d a cap W (zAt h hb);have i : Hid (∀ W, Calls Tryz.prog 131 #[.agg #[nI o, nI s, .bool b, nI k, nI f, nI l, nI m, sL a d.length cap]] W fun e w' => e = .returned (.bool (zHU b k f l)) ∧ Bl W w') := fun W => zHu o s k f l m b d a cap W;have y : Hid (∀ W, Calls Tryz.prog 130 #[.agg #[nI o, nI s, .bool b, nI k, nI f, nI l, nI m, sL a d.length cap]] W fun e w' => e = .returned (.bool (zJ7 o s)) ∧ Bl W w') := fun W => zHt o s k f l m b d a cap W;clear h;rw [zKT];generalize zJ7 o s = p at y ⊢;generalize zHU b k f l = q at i ⊢;generalize zHs k m d = r at g ⊢;go_enter Tryz.func102, Tryz.ntmps102;go_wp2_with fail
 generalize c : w.alloc _ = W0;have X := boxH c;have B := boxB c;clear c;refine (y.out _).mono ?_;rintro e w1 ⟨rfl, j⟩;replace X := zAb j X;replace B := zAa B j;obtain ⟨G, D, v, F, E, n, C, z⟩ := zAk X;clear j y;cases p
 ·clear i g X;go_wp2_with fail
  go_ret
  exact ⟨rfl, B⟩
 ·go_wp2_with fail
  refine (i.out _).mono ?_;rintro e w2 ⟨rfl, A⟩;clear G D v F E n C z i;replace X := zAb A X;replace B := zAa B A;obtain ⟨G, D, v, F, E, n, C, z⟩ := zAk X;clear A;cases q
  ·clear g X;go_wp2_with fail
   go_ret
   exact ⟨rfl, B⟩
  ·go_wp2_with fail
   refine (g.out _ B).mono ?_;rintro e w3 ⟨rfl, H⟩;replace B := zAa B H;clear H g X G D v F E n C z;go_wp2_with fail
   go_ret
   exact ⟨rfl, B⟩
theorem zGI (a : Option Addr) (n cap : Nat) (left : Int) (w : World) (h0 : 0 ≤ left) (h1 : left ≤ 1048576) (hm : n ≤ 9223372036854775807) :
    Calls Tryz.prog 64 #[sL a n cap, nI left] w fun e w' => e = .returned (nI (szI n left)) ∧ w' = w := by
 by_cases c : (n : Int) ≤ left
 ·have b : ¬ (left - (n : Int) < 0) := by omega
  rw [zKG c];go_enter Tryz.func64, Tryz.ntmps64;go_wp2;go_ret
  exact ⟨rfl, rfl⟩
 ·have b : left - (n : Int) < 0 := by omega
  rw [szI_no c];go_enter Tryz.func64, Tryz.ntmps64;go_wp2;go_ret
  exact ⟨rfl, rfl⟩
theorem szRows_any (a : Option Addr) (xss : List (List Int)) (cap : Nat) (w : World) (h : zDo w a xss) (hm : xss.length ≤ 9223372036854775807) (hm2 : ∀ c ∈ xss, c.length ≤ 9223372036854775807) :
    Calls Tryz.prog 62 #[sL a xss.length cap, nI 1048576] w fun e l => ∃ q : Int, e = .returned (nI q) ∧ (q < 0 ∨ (0 ≤ q ∧ xss.length ≤ 1048576 ∧ tot xss ≤ 1048576)) ∧ l = w := by
 by_cases y : xss.length ≤ 1048576
 ·have j : ¬ (1048576 - (xss.length : Int) < 0) := by omega
  go_enter Tryz.func62, Tryz.ntmps62;go_wp2;go_loop [1, 5] (fun q i => ∃ k : Nat, k ≤ xss.length ∧ i = nI k ∧ tot (xss.take k) + xss.length ≤ 1048576 ∧ q = nI (1048576 - (xss.length : Int) - tot (xss.take k))) (fun _ i => xss.length - (intOf i).toNat)
  case atStart => exact ⟨0, Nat.zero_le _, rfl, by simp [tot]; omega, by simp [tot]⟩
  case round =>
   obtain ⟨k, hk, rfl, s, rfl⟩ := hrel;by_cases m : k < xss.length
   ·have r : (k : Int) < (xss.length : Int) := by omega
    obtain ⟨c, f⟩ := zDp m;obtain ⟨b, v, aj, cj, rfl, g1, hr⟩ := zCR h f;have d := hm2 c (List.mem_of_getElem? f);have o : Hid (tot (xss.take (k + 1)) = tot (xss.take k) + c.length) := zJ2 f;clear hm2 h f;generalize tot (xss.take k) = T at s o ⊢;by_cases p : (c.length : Int) ≤ 1048576 - (xss.length : Int) - (T : Int)
    ·have z : ¬ (1048576 - (xss.length : Int) - (T : Int) - (c.length : Int) < 0) := by omega
     have g : Hid (szI c.length (1048576 - (xss.length : Int) - (T : Int)) = _) := zKG p;go_wp2_with (go_at_call 64; refine (zGI _ _ _ _ _ (by omega) (by omega) d).mono ?_; rintro e l ⟨rfl, rfl⟩; rw [g.out])
     go_round
     case rel => exact ⟨k + 1, by omega, by go_num, by have := o.out; omega, by rw [o.out]; go_num⟩
     case measure => simp [intOf]; omega
    ·have g : Hid (szI c.length (1048576 - (xss.length : Int) - (T : Int)) = _) := szI_no p;go_wp2_with (go_at_call 64; refine (zGI _ _ _ _ _ (by omega) (by omega) d).mono ?_; rintro e l ⟨rfl, rfl⟩; rw [g.out])
     go_ret
     exact ⟨-1, rfl, .inl (by decide), rfl⟩
   ·have n : k = xss.length := by omega
    subst n;rw [List.take_length] at s ⊢;go_wp2;go_ret
    refine ⟨_, rfl, .inr ?_, rfl⟩;refine ⟨by omega, ?_⟩;first | exact ⟨y, by omega⟩ | omega
 ·have j : 1048576 - (xss.length : Int) < 0 := by omega
  go_enter Tryz.func62, Tryz.ntmps62;go_wp2;go_ret
  exact ⟨-1, rfl, .inl (by decide), rfl⟩
theorem eqRows_any (a1 a2 : Option Addr) (xss : List (List Int)) (c1 c2 : Nat) (w : World) (h1 : zDo w a1 xss) (h2 : zDo w a2 xss) (hm : xss.length ≤ 2305843009213693952) (hm2 : tot xss ≤ 2305843009213693952) :
    Calls Tryz.prog 68 #[sL a1 xss.length c1, sL a2 xss.length c2] w fun e w' => e = .returned (.bool true) ∧ ∃ n, w' = w.drewN n := by
 go_enter Tryz.func68, Tryz.ntmps68;go_wp2;go_loopw [5] (fun i wr => ∃ k : Nat, k ≤ xss.length ∧ i = nI k ∧ ∃ n, wr = w.drewN n) (fun i _ => xss.length - (intOf i).toNat)
 case atStart => exact ⟨0, Nat.zero_le _, rfl, 0, rfl⟩
 case round =>
  obtain ⟨k, hk, rfl, n, a⟩ := hrel;by_cases p : k < xss.length
  ·have s : (k : Int) < (xss.length : Int) := by omega
   obtain ⟨c, j⟩ := zDp p;obtain ⟨b, m, q, B, rfl, y, v⟩ := zCR h1 j;obtain ⟨A, f, g, l, rfl, r, d⟩ := zCR h2 j;have D := zKI j;clear h1 h2 j;have z : Hid (zBr wr q c) := by rw [a]; exact v
   have o : Hid (zBr wr g c) := by rw [a]; exact d
   have q1 : wr.cell? ⟨b, m + k, none⟩ = some (sL q c.length B) := by rw [a]; exact y
   have q2 : wr.cell? ⟨A, f + k, none⟩ = some (sL g c.length l) := by rw [a]; exact r
   have C : Hid (wr = w.drewN n) := a;clear v d y r a;go_wp2_with fail
   go_quiet (first | (go_at_call 70; exact Calls.quiet_of (zJW _ _ c _ _ _ z.out o.out (by omega))))
   go_wp2;go_roundw
   case rel => exact ⟨k + 1, by omega, by go_num, n + nq, by rw [C.out, World.drewN_drewN]⟩
   case measure => simp [intOf]; omega
  ·go_wp2;go_ret
   first | exact ⟨rfl, _, rfl⟩ | exact ⟨rfl, _, a⟩
theorem zIa (a1 a2 : Option Addr) (xss : List (List Int)) (c1 c2 : Nat) (w : World) (h1 : zDo w a1 xss) (h2 : zDo w a2 xss) (hm : xss.length ≤ 2305843009213693952) (hm2 : tot xss ≤ 2305843009213693952) :
    Calls Tryz.prog 50 #[sL a1 xss.length c1, sL a2 xss.length c2] w fun e w' => e = .returned (.bool true) ∧ ∃ n, w' = w.drewN n := by
 go_enter Tryz.func50, Tryz.ntmps50;go_wp2;go_loopw [5] (fun i wr => ∃ k : Nat, k ≤ xss.length ∧ i = nI k ∧ ∃ n, wr = w.drewN n) (fun i _ => xss.length - (intOf i).toNat)
 case atStart => exact ⟨0, Nat.zero_le _, rfl, 0, rfl⟩
 case round =>
  obtain ⟨k, hk, rfl, n, a⟩ := hrel;by_cases p : k < xss.length
  ·have s : (k : Int) < (xss.length : Int) := by omega
   obtain ⟨c, j⟩ := zDp p;obtain ⟨b, m, q, B, rfl, y, v⟩ := zCR h1 j;obtain ⟨A, f, g, l, rfl, r, d⟩ := zCR h2 j;have D := zKI j;clear h1 h2 j;have z : Hid (zBr wr q c) := by rw [a]; exact v
   have o : Hid (zBr wr g c) := by rw [a]; exact d
   have q1 : wr.cell? ⟨b, m + k, none⟩ = some (sL q c.length B) := by rw [a]; exact y
   have q2 : wr.cell? ⟨A, f + k, none⟩ = some (sL g c.length l) := by rw [a]; exact r
   have C : Hid (wr = w.drewN n) := a;clear v d y r a;go_wp2_with fail
   go_quiet (first | (go_at_call 17; exact Calls.quiet_of (zCO _ _ c _ _ _ z.out o.out (by omega))))
   go_wp2;go_roundw
   case rel => exact ⟨k + 1, by omega, by go_num, n + nq, by rw [C.out, World.drewN_drewN]⟩
   case measure => simp [intOf]; omega
  ·go_wp2;go_ret
   first | exact ⟨rfl, _, rfl⟩ | exact ⟨rfl, _, a⟩
theorem Tryz.infoS : (Tryz.prog.info? 28).map (fun i => (i.zero, i.size, i.bytes)) = some (some (sL none 0 0), 1, 24) := by kernel_rfl
theorem zFY {B B' g cap : Nat} {w : World} {zs : List Int} (h : zCW B w g cap zs) (hb : B' ≤ B) : zCW B' w g cap zs := own_mono h hb
theorem set_step (l ys : List Value) (v : Value) (k : Nat) (hl : l.length = k) (h2 : k < ys.length) : (l ++ ys.drop k).set k v = (l ++ [v]) ++ ys.drop (k + 1) := by
 rw [List.set_append_right _ _ (by omega), hl, Nat.sub_self, List.drop_eq_getElem_cons h2];simp only [List.set_cons_zero, List.append_assoc, List.cons_append, List.nil_append]
theorem zKU {w wr w1 : World} {k n : Nat} {rs : List Rw} {v : Value} {xs : List Int} {ys : List Value} (hk : rs.length = k) (hkn : k < n) (hys : ys.length = n)
    (ho : Out w.heap.size wr w.heap.size n n (rs.map Rw.v ++ ys.drop k)) (hin : Inn w.heap.size wr.heap.size wr rs) (hb : Bl w wr) (hm : zCH wr w1 v xs) :
    ∃ g c, v = sL (some ⟨g, 0, none⟩) xs.length c ∧ (∃ v0, w1.cell? ⟨w.heap.size, k, none⟩ = some v0) ∧ w1.frozen? ⟨w.heap.size, k, none⟩ = false ∧
     Out w.heap.size (w1.setCell ⟨w.heap.size, k, none⟩ (sL (some ⟨g, 0, none⟩) xs.length c)) w.heap.size n n ((rs ++ [(⟨g, c, xs⟩ : Rw)]).map Rw.v ++ ys.drop (k + 1)) ∧
     Inn w.heap.size (w1.setCell ⟨w.heap.size, k, none⟩ (sL (some ⟨g, 0, none⟩) xs.length c)).heap.size (w1.setCell ⟨w.heap.size, k, none⟩ (sL (some ⟨g, 0, none⟩) xs.length c)) (rs ++ [(⟨g, c, xs⟩ : Rw)]) ∧
     Bl w (w1.setCell ⟨w.heap.size, k, none⟩ (sL (some ⟨g, 0, none⟩) xs.length c)) := by
 obtain ⟨g, c, rfl, m, p, i, b⟩ := hm;have f := hb.size;have l := zJ0 ho;have a : Out w.heap.size w1 w.heap.size n n (rs.map Rw.v ++ ys.drop k) := zHW ho (b.block _ l.2);have d := zHm (zEc hin b (Nat.le_refl _)) (zFY i f) m p;have R := World.ownsRow.stored a k (sL (some ⟨g, 0, none⟩) xs.length c);rw [set_step _ _ _ k (by simpa using hk) (by omega)] at R;refine ⟨g, c, rfl, ?_, World.ownsRow.frozenAt a k, ?_, ?_, (zAa hb b).grown R.2 (Nat.le_trans f b.size) (by intro j o; cases o; exact Nat.le_refl _)⟩
 ·rw [World.ownsRow.cellAt a k (by omega)];exact ⟨_, List.getElem?_eq_getElem (by have := a.1; omega)⟩
 ·have := R.1;rw [List.map_append];exact this
 ·exact zFI (inn_out d a R.2) R.2.size
theorem fill_end {w wr : World} {n : Nat} {rs : List Rw} {xss : List (List Int)} {ys : List Value} (hx : rs.map Rw.xs = xss) (hn : xss.length = n) (hys : ys.length = n)
    (ho : Out w.heap.size wr w.heap.size n n (rs.map Rw.v ++ ys.drop n)) (hin : Inn w.heap.size wr.heap.size wr rs) (hb : Bl w wr) : zFQ w wr (sL (some ⟨w.heap.size, 0, none⟩) xss.length n) xss := by
 rw [List.drop_of_length_le (by omega), List.append_nil] at ho;exact ⟨_, _, rfl, Nat.le_refl _, (zJ0 ho).2, ⟨rs, hx, by rw [hn]; exact ho, (zJ0 ho).2, hin⟩, hb⟩
theorem zKV {xss : List (List Int)} {rs : List Rw} {k g c : Nat} {xs : List Int} (h : rs.map Rw.xs = xss.take k) (hx : xss[k]? = some xs) : (rs ++ [(⟨g, c, xs⟩ : Rw)]).map Rw.xs = xss.take (k + 1) := by
 rw [List.map_append, h, List.take_add_one, hx];rfl
theorem out_made (w : World) (n : Nat) (hn : n ≤ maxLen) : Out w.heap.size (w.alloc (.cells (madeCells #[sL none 0 0] n) 28)) w.heap.size n n (madeCells #[sL none 0 0] n).toList :=
 World.ownsRow_lit (base := w.heap.size) (e := 28) (size := 1) w (madeCells #[sL none 0 0] n) n (Nat.le_refl _) hn (by simp [size_madeCells])
theorem zCA (k : Int) (w : World) : Calls Tryz.prog 44 #[nI k] w fun e a => e = .returned (.bool (zA6 k 1 16)) ∧ a = w := by
 go_enter Tryz.func44, Tryz.ntmps44;go_wp2_with (go_at_call 91; refine (zA8 _ _ _ _).mono ?_; rintro e a ⟨rfl, rfl⟩)
 go_ret
 exact ⟨rfl, rfl⟩
theorem zFm (w : World) (k : Nat) (h : k = w.heap.size) : zCH w (w.alloc (.cells #[] 2)) (sL (some ⟨k, 0, none⟩) 0 0) [] := by
 subst h;exact zFF w #[] [] rfl (Nat.zero_le _)
theorem zGJ {w w1 : World} {a : Option Addr} {xs : List Int} (h : zBr w a xs) (hb : Bl w w1) (o : Obj) : zBr (w1.alloc o) a xs :=
 zDO h (hb.alloc hb.size o)
theorem zHv (a a2 : Option Addr) (xs ys : List Int) (cap cap2 : Nat) (m : Int) (w : World) (h : zBr w a xs) (h2 : zBr w a2 ys) (hn : (isL xs && isL ys && zA6 m 0 3) = false) :
    Calls Tryz.prog 176 #[sL a xs.length cap, sL a2 ys.length cap2, nI m] w fun e f => ∃ v, e = .returned v ∧ zCH w f v [] := by
 have d : ∀ b c g : Bool, isL xs = b → isL ys = c → zA6 m 0 3 = g → (b && c && g) = false →
     Calls Tryz.prog 176 #[sL a xs.length cap, sL a2 ys.length cap2, nI m] w fun e f => ∃ v, e = .returned v ∧ zCH w f v [] := by
  intro b c g k l n j;cases b <;> cases c <;> cases g
  case true.true.true => simp at j
  all_goals
   go_enter Tryz.func176, Tryz.ntmps176;go_wp2_with fail
   refine (zFU _ xs _ _ h).mono ?_;rintro e w1 ⟨x, y, rfl, b⟩;rw [k];have i := zGJ h2 b (.cells #[nI x, nI y] 140);go_wp2_with fail
   refine (zFU _ ys _ _ i).mono ?_;rintro e w2 ⟨x2, y2, rfl, c⟩;rw [l];have B := zAa (b.alloc b.size _) c;clear i b c;go_wp2_with (go_at_call 155; refine (zCe _ _).mono ?_; rintro e f ⟨rfl, rfl⟩; rw [n])
   go_ret
   exact ⟨_, rfl, zBn (B.alloc B.size _) (zFm _ _ (by simp))⟩
 exact d _ _ _ rfl rfl rfl hn
theorem zG2 (a a2 : Option Addr) (x y x2 y2 : Int) (cap cap2 : Nat) (m : Int) (w : World) (h : zBr w a [x, y]) (h2 : zBr w a2 [x2, y2])
    (hx : okW x = true) (hy : okW y = true) (hx2 : okW x2 = true) (hy2 : okW y2 = true) (hm : zA6 m 0 3 = true) :
    Calls Tryz.prog 176 #[sL a 2 cap, sL a2 2 cap2, nI m] w fun e f => ∃ v, e = .returned v ∧ zCH w f v (zBz [x, y] [x2, y2] m) := by
 have C : Hid (zBz [x, y] [x2, y2] m = [if m % 2 = 1 then x2 else x, if m / 2 % 2 = 1 then y2 else y]) := by
  unfold Hid zBz; simp [zE8 hx hy, zE8 hx2 hy2, hm]
 have b : ∀ l o : Bool, inB m 0 = l → inB m 1 = o → [if l then x2 else x, if o then y2 else y] = [if m % 2 = 1 then x2 else x, if m / 2 % 2 = 1 then y2 else y] →
     Calls Tryz.prog 176 #[sL a 2 cap, sL a2 2 cap2, nI m] w fun e f => ∃ v, e = .returned v ∧ zCH w f v (zBz [x, y] [x2, y2] m) := by
  intro l o e0 e1 z;have D : Hid _ := z;clear z;cases l <;> cases o
  all_goals
   go_enter Tryz.func176, Tryz.ntmps176;go_wp2_with fail
   refine (zE7 _ x y _ _ h hx hy).mono ?_;rintro e i ⟨rfl, g⟩;have A := zGJ h2 g (.cells #[nI x, nI y] 140);go_wp2_with fail
   refine (zE7 _ x2 y2 _ _ A hx2 hy2).mono ?_;rintro e d ⟨rfl, r⟩;have R := zAb r (heap_alloc_new i (.cells #[nI x, nI y] 140));have s := g.size;have B := zAa (g.alloc g.size _) r;have j : i.heap.size < d.heap.size := (ltH R);clear A g r;go_wp2_with (go_at_call 155; refine (zCe _ _).mono ?_; rintro e f ⟨rfl, rfl⟩)
   have n := (Below.heap_alloc d (.cells #[nI x2, nI y2] 140) _ j).trans R;have F := heap_alloc_new d (.cells #[nI x2, nI y2] 140);have p := B.alloc B.size (.cells #[nI x2, nI y2] 140);have k : i.heap.size ≠ d.heap.size := by omega
   have c : w.heap.size ≤ i.heap.size := s;clear R B j;generalize d.alloc (.cells #[nI x2, nI y2] 140) = W at n F p ⊢;generalize d.heap.size = g2 at F k ⊢;generalize i.heap.size = g1 at n k c ⊢;obtain ⟨q0, q1⟩ := zD0 n;obtain ⟨f0, f1⟩ := zHn n;obtain ⟨y0, y1⟩ := zD0 F;refine wp_loop_rounds 3 ?_;rw [rounds_succ];go_wp2_with (go_at_call 180; refine (zGH _ _ _).mono ?_; rintro e f ⟨rfl, rfl⟩)
   rw [rounds_succ];go_wp2_with (go_at_call 180; refine (zGH _ _ _).mono ?_; rintro e f ⟨rfl, rfl⟩)
   rw [rounds_succ];go_wp2_with (go_at_call 181; refine (zIK _ _ _).mono ?_; rintro e w3 ⟨v, rfl, q⟩)
   go_ret
   rw [C.out, ← D.out];first | exact ⟨_, rfl, zBn p q⟩ | exact ⟨_, rfl, zBn (p.setCell c _) q⟩ | exact ⟨_, rfl, zBn ((p.setCell c _).setCell c _) q⟩
 rcases zHY hm with rfl | rfl | rfl | rfl
 ·exact b false false (by decide +kernel) (by decide +kernel) rfl
 ·exact b true false (by decide +kernel) (by decide +kernel) rfl
 ·exact b false true (by decide +kernel) (by decide +kernel) rfl
 ·exact b true true (by decide +kernel) (by decide +kernel) rfl
theorem zG3 (a a2 : Option Addr) (xs ys : List Int) (cap cap2 : Nat) (m : Int) (w : World) (h : zBr w a xs) (h2 : zBr w a2 ys) :
    Calls Tryz.prog 176 #[sL a xs.length cap, sL a2 ys.length cap2, nI m] w fun e w' => ∃ v, e = .returned v ∧ zCH w w' v (zBz xs ys m) := by
 by_cases b : (isL xs && isL ys && zA6 m 0 3) = false
 ·have e : zBz xs ys m = [] := by unfold zBz; rw [b]; rfl
  rw [e];exact zHv a a2 xs ys cap cap2 m w h h2 b
 ·rcases zBJ xs with c | ⟨x, y, rfl, j, k⟩
  ·simp [c] at b
  rcases zBJ ys with c | ⟨i, l, rfl, d, f⟩
  ·simp [c] at b
  cases g : zA6 m 0 3
  ·simp [g] at b
  exact zG2 a a2 x y i l cap cap2 m w h h2 j k d f g
theorem zGK (n : Nat) : (madeCells #[nI 0] n).toList = (List.replicate n (0 : Int)).map (Value.int .i64) := by
 apply List.ext_getElem?
 intro i;simp only [madeCells, Array.toList_map, Array.toList_range, List.getElem?_map, List.getElem?_replicate];by_cases h : i < n
 ·simp [h, Nat.mod_one]
 ·simp [h]
theorem zJ8 {B g cap : Nat} {w : World} {zs : List Int} (h : zCW B w g cap zs) : zs.length ≤ cap ∧ cap ≤ maxLen := by
 rcases h.2 with ⟨a, _⟩ | ⟨g', b, j, a, c, f, i, d, rest⟩
 ·simp at a
 ·simp only [Value.slice.injEq, Option.some.injEq, Addr.mk.injEq, and_true, true_and] at a;obtain ⟨rfl, rfl⟩ := a;exact ⟨i, d⟩
theorem zGL (n : Nat) (w : World) (hn : n ≤ 16) : Calls Tryz.prog 92 #[nI n] w fun e w' => ∃ v, e = .returned v ∧ zCH w w' v (List.replicate (n * 2) 0) := by
 have a := Go.run_make_row' (P := Tryz.prog) 112 2 (nI 0) 8 Tryz.underlying112 Tryz.infoI rfl .i64 .i64 (n * 2) (by omega) (by omega);have b : ((n * 2 : Nat) : Int) = (n : Int) * 2 := by omega
 simp only [b] at a;have M := zFF w (madeCells #[nI 0] (n * 2)) (List.replicate (n * 2) 0) (zGK _) (by unfold maxLen; simp; omega);rw [List.length_replicate] at M;have c : Hid _ := M;clear M;go_enter Tryz.func92, Tryz.ntmps92;go_wp2;go_ret
 exact ⟨_, rfl, c.out⟩
theorem zFx (a : Option Addr) (m n cap : Nat) (w : World) (hn : m ≤ 16) (he : n = m * 2) : Calls Tryz.prog 121 #[sL a n cap] w fun e w' => e = .returned (nI m) ∧ w' = w := by
 subst he;have e2 : Int.tdiv ((m : Int) * 2) 2 = m := by rw [Int.tdiv_eq_ediv_of_nonneg (by omega)]; omega
 go_enter Tryz.func121, Tryz.ntmps121;go_wp2;go_ret
 refine ⟨zD7 ?_, rfl⟩;first | rfl | (simp; done) | omega | (simp; omega)
theorem zGM (a : Option Addr) (m n cap : Nat) (k : Int) (w : World) (hn : m ≤ 16) (he : n = m * 2) : Calls Tryz.prog 139 #[sL a n cap, nI k] w fun e b => e = .returned (.bool (zA6 k 0 ((m : Int) - 1))) ∧ b = w := by
 have c : Hid (n = m * 2) := he;clear he;go_enter Tryz.func139, Tryz.ntmps139
 go_wp2_with (first
  | (go_at_call 121; refine (zFx _ m _ _ _ hn c.out).mono ?_; rintro e b ⟨rfl, rfl⟩)
  | (go_at_call 91; refine (zA8 _ _ _ _).mono ?_; rintro e b ⟨rfl, rfl⟩))
 go_ret
 exact ⟨rfl, rfl⟩
theorem zKW (g n cap j : Nat) (w : World) (hj : j ≤ 16) (h : j * 2 + 2 ≤ cap) : Calls Tryz.prog 128 #[sL (some ⟨g, 0, none⟩) n cap, nI j] w fun e w' => e = .returned (sL (some ⟨g, j * 2, none⟩) 2 2) ∧ w' = w := by
 go_enter Tryz.func128, Tryz.ntmps128;go_wp2;go_ret
 refine ⟨?_, rfl⟩;have a : j * 2 + 2 - j * 2 = 2 := by omega
 rw [a];rfl
end Go.Proofs.YtmaopldahnejdaaGreatDoor
