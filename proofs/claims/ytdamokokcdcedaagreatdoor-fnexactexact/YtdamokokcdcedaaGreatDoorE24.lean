import Derived.Test.YtdamokokcdcedaaGreatDoorE00Box
import Derived.Test.YtdamokokcdcedaaGreatDoorE23
import Derived.Test.YtdamokokcdcedaaGreatDoorE21
namespace Go.Proofs.YtdamokokcdcedaaGreatDoor
set_option maxHeartbeats 4000000
set_option maxRecDepth 20000
open Go.ChangeShapes Go.WideShapes Go.ChangeAt Go.RowKit
set_option linter.unusedVariables false
def restB (k f l m : Int) (d : List Int) : Bool := decide (k = 0) && (decide (f = 0) && (decide (l = 0) && (decide (m = 0) && decide (d.length = 0))))
def fromB (k f l : Int) : Bool := if k ≤ 2 then betw f 0 3 else decide (f = 5) && !decide (l = 0)
def loadB (k m : Int) (d : List Int) : Bool := if k = 4 then betw m 0 3 && isL d else decide (m = 0) && decide (d.length = 0)
def busyB (k f l m : Int) (d : List Int) : Bool := betw k 1 4 && (betw l 0 4 && (fromB k f l && loadB k m d))
def whoB (o s : Int) : Bool := betw o (-1) 3 && (betw s 0 15 && !(decide (0 ≤ o) && !decide (s = 0)))
def entB (u : EntryD) : Bool := whoB u.1 u.2.1 && (if u.2.2.1 then busyB u.2.2.2.1 u.2.2.2.2.1 u.2.2.2.2.2.1 u.2.2.2.2.2.2.1 u.2.2.2.2.2.2.2 else restB u.2.2.2.1 u.2.2.2.2.1 u.2.2.2.2.2.1 u.2.2.2.2.2.2.1 u.2.2.2.2.2.2.2)
theorem eb {o s : Int} {b : Bool} {k f l m : Int} {d : List Int} : entB (o, s, b, k, f, l, m, d) = (whoB o s && (if b then busyB k f l m d else restB k f l m d)) := rfl
def cby (k : Int) : Bool := decide (k = 1) || decide (k = 2)
def pby (k : Int) : Bool := decide (k = 3) || decide (k = 4)
def askB (k f : Int) : Bool := (cby k && betw f 0 3) || (pby k && decide (f = 5))
def leftB (k l : Int) : Bool := if pby k then betw l 1 4 else betw l 0 4
def whoI (o s : Int) : Bool := if betw o 0 3 then decide (s = 0) else decide (o = -1) && betw s 0 15
def reqI (b : Bool) (k f l : Int) : Bool := if b then askB k f && leftB k l else decide (k = 0) && (decide (f = 0) && decide (l = 0))
def datI (k m : Int) (d : List Int) : Bool := if k = 4 then betw m 0 3 && isL d else decide (m = 0) && decide (d.length = 0)
theorem who_eq (o s : Int) : whoB o s = whoI o s := by
 unfold whoB whoI betw;rw [Bool.eq_iff_iff];by_cases h : 0 ≤ o ∧ o ≤ 3
 ·rw [if_pos (by simpa using h)];simp
  omega
 ·rw [if_neg (by simpa using h)];simp
  omega
theorem req_eq (b : Bool) (k f l m : Int) (d : List Int) : (if b then busyB k f l m d else restB k f l m d) = (reqI b k f l && datI k m d) := by
 cases b
 ·show restB k f l m d = (reqI false k f l && datI k m d)
  unfold restB reqI datI;generalize decide (d.length = 0) = z;by_cases h : k = 4
  ·subst h; simp
  ·rw [if_neg (by decide), if_neg h];cases z <;> simp [Bool.and_assoc]
 ·show busyB k f l m d = (reqI true k f l && datI k m d)
  unfold busyB reqI datI fromB loadB askB leftB cby pby betw;generalize decide (d.length = 0) = z;generalize isL d = y;cases z <;> cases y
  all_goals
   by_cases g : k = 1
   ·subst g; rw [Bool.eq_iff_iff]; simp <;> omega
   ·by_cases i : k = 2
    ·subst i; rw [Bool.eq_iff_iff]; simp <;> omega
    ·by_cases c : k = 3
     ·subst c; rw [Bool.eq_iff_iff]; simp <;> omega
     ·by_cases a : k = 4
      ·subst a; rw [Bool.eq_iff_iff]; simp <;> omega
      ·rw [Bool.eq_iff_iff];simp [g, i, c, a]
       try omega
theorem ent_parts (o s : Int) (b : Bool) (k f l m : Int) (d : List Int) : entB (o, s, b, k, f, l, m, d) = (whoI o s && (reqI b k f l && datI k m d)) := by
 rw [eb, who_eq, req_eq]
theorem coreOk_any (c : Int) (w : World) : Calls Tryz.prog 225 #[nI c] w fun e a => e = .returned (.bool (betw c 0 3)) ∧ a = w := by
 go_enter Tryz.func225, Tryz.ntmps225;go_wp2_with (go_at_call 156; refine (between_any _ _ _ _).mono ?_; rintro e a ⟨rfl, rfl⟩)
 go_ret
 exact ⟨rfl, rfl⟩
theorem byCore_any (k : Int) (w : World) : Calls Tryz.prog 289 #[nI k] w fun e w' => e = .returned (.bool (cby k)) ∧ w' = w := by
 by_cases a : k = 1
 ·subst a;go_enter Tryz.func289, Tryz.ntmps289;go_wp2;go_ret
  exact ⟨rfl, rfl⟩
 ·have f : (k == 1) = false := beq_false_of_ne a;by_cases b : k = 2
  ·subst b;go_enter Tryz.func289, Tryz.ntmps289;go_wp2;go_ret
   exact ⟨rfl, rfl⟩
  ·have c : (k == 2) = false := beq_false_of_ne b;have d : Hid (cby k = false) := by unfold Hid cby; simp [a, b]
   go_enter Tryz.func289, Tryz.ntmps289;go_wp2;go_ret
   exact ⟨ret_bool d.out.symm, rfl⟩
theorem byPort_any (k : Int) (w : World) : Calls Tryz.prog 290 #[nI k] w fun e w' => e = .returned (.bool (pby k)) ∧ w' = w := by
 by_cases a : k = 3
 ·subst a;go_enter Tryz.func290, Tryz.ntmps290;go_wp2;go_ret
  exact ⟨rfl, rfl⟩
 ·have f : (k == 3) = false := beq_false_of_ne a;by_cases b : k = 4
  ·subst b;go_enter Tryz.func290, Tryz.ntmps290;go_wp2;go_ret
   exact ⟨rfl, rfl⟩
  ·have c : (k == 4) = false := beq_false_of_ne b;have d : Hid (pby k = false) := by unfold Hid pby; simp [a, b]
   go_enter Tryz.func290, Tryz.ntmps290;go_wp2;go_ret
   exact ⟨ret_bool d.out.symm, rfl⟩
theorem askerOk_any (k f : Int) (w : World) : Calls Tryz.prog 273 #[nI k, nI f] w fun e a => e = .returned (.bool (askB k f)) ∧ a = w := by
 unfold askB;cases g : cby k
 ·cases i : pby k
  ·go_enter Tryz.func273, Tryz.ntmps273;go_wp2_with (first | (go_at_call 289; refine (byCore_any _ _).mono ?_; rintro e a ⟨rfl, rfl⟩) | (go_at_call 225; refine (coreOk_any _ _).mono ?_; rintro e a ⟨rfl, rfl⟩) | (go_at_call 290; refine (byPort_any _ _).mono ?_; rintro e a ⟨rfl, rfl⟩))
   go_ret
   exact ⟨rfl, rfl⟩
  ·by_cases b : f = 5
   ·subst b;go_enter Tryz.func273, Tryz.ntmps273;go_wp2_with (first | (go_at_call 289; refine (byCore_any _ _).mono ?_; rintro e a ⟨rfl, rfl⟩) | (go_at_call 225; refine (coreOk_any _ _).mono ?_; rintro e a ⟨rfl, rfl⟩) | (go_at_call 290; refine (byPort_any _ _).mono ?_; rintro e a ⟨rfl, rfl⟩))
    go_ret
    exact ⟨rfl, rfl⟩
   ·have d : (f == 5) = false := beq_false_of_ne b;have j : Hid (((false && betw f 0 3) || (true && decide (f = 5))) = false) := by unfold Hid; simp [b]
    rw [j.out];go_enter Tryz.func273, Tryz.ntmps273;go_wp2_with (first | (go_at_call 289; refine (byCore_any _ _).mono ?_; rintro e a ⟨rfl, rfl⟩) | (go_at_call 225; refine (coreOk_any _ _).mono ?_; rintro e a ⟨rfl, rfl⟩) | (go_at_call 290; refine (byPort_any _ _).mono ?_; rintro e a ⟨rfl, rfl⟩))
    go_ret
    exact ⟨rfl, rfl⟩
 ·cases i : betw f 0 3
  ·cases c : pby k
   ·go_enter Tryz.func273, Tryz.ntmps273;go_wp2_with (first | (go_at_call 289; refine (byCore_any _ _).mono ?_; rintro e a ⟨rfl, rfl⟩) | (go_at_call 225; refine (coreOk_any _ _).mono ?_; rintro e a ⟨rfl, rfl⟩) | (go_at_call 290; refine (byPort_any _ _).mono ?_; rintro e a ⟨rfl, rfl⟩))
    go_ret
    exact ⟨rfl, rfl⟩
   ·exfalso
    simp [cby, pby] at g c
    omega
  ·go_enter Tryz.func273, Tryz.ntmps273;go_wp2_with (first | (go_at_call 289; refine (byCore_any _ _).mono ?_; rintro e a ⟨rfl, rfl⟩) | (go_at_call 225; refine (coreOk_any _ _).mono ?_; rintro e a ⟨rfl, rfl⟩) | (go_at_call 290; refine (byPort_any _ _).mono ?_; rintro e a ⟨rfl, rfl⟩))
   go_ret
   exact ⟨rfl, rfl⟩
theorem leftOk_any (k l : Int) (w : World) : Calls Tryz.prog 274 #[nI k, nI l] w fun e a => e = .returned (.bool (leftB k l)) ∧ a = w := by
 unfold leftB;cases h1 : pby k
 ·go_enter Tryz.func274, Tryz.ntmps274;go_wp2_with (first | (go_at_call 290; refine (byPort_any _ _).mono ?_; rintro e a ⟨rfl, rfl⟩) | (go_at_call 156; refine (between_any _ _ _ _).mono ?_; rintro e a ⟨rfl, rfl⟩))
  go_ret
  exact ⟨rfl, rfl⟩
 ·go_enter Tryz.func274, Tryz.ntmps274;go_wp2_with (first | (go_at_call 290; refine (byPort_any _ _).mono ?_; rintro e a ⟨rfl, rfl⟩) | (go_at_call 156; refine (between_any _ _ _ _).mono ?_; rintro e a ⟨rfl, rfl⟩))
  go_ret
  exact ⟨rfl, rfl⟩
theorem holdersOk_any (o s k f l m : Int) (b : Bool) (d : List Int) (a : Option Addr) (cap : Nat) (w : World) :
    Calls Tryz.prog 253 #[.agg #[nI o, nI s, .bool b, nI k, nI f, nI l, nI m, sL a d.length cap]] w fun e c => e = .returned (.bool (whoI o s)) ∧ Bl w c := by
 have n : Hid _ := box_below w;cases j : betw o 0 3
 ·by_cases g : o = -1
  ·subst g;have i : Hid (whoI (-1) s = betw s 0 15) := by unfold Hid whoI; simp [j]
   rw [i.out];go_enter Tryz.func253, Tryz.ntmps253;go_wp2_with (first | (go_at_call 225; refine (coreOk_any _ _).mono ?_; rintro e c ⟨rfl, rfl⟩) | (go_at_call 156; refine (between_any _ _ _ _).mono ?_; rintro e c ⟨rfl, rfl⟩))
   go_ret
   exact ⟨rfl, n.out _⟩
  ·have p : (o == -1) = false := beq_false_of_ne g;have i : Hid (whoI o s = false) := by unfold Hid whoI; simp [j, g]
   rw [i.out];go_enter Tryz.func253, Tryz.ntmps253;go_wp2_with (first | (go_at_call 225; refine (coreOk_any _ _).mono ?_; rintro e c ⟨rfl, rfl⟩) | (go_at_call 156; refine (between_any _ _ _ _).mono ?_; rintro e c ⟨rfl, rfl⟩))
   go_ret
   exact ⟨rfl, n.out _⟩
 ·by_cases g : s = 0
  ·subst g;have i : Hid (whoI o 0 = true) := by unfold Hid whoI; simp [j]
   rw [i.out];go_enter Tryz.func253, Tryz.ntmps253;go_wp2_with (first | (go_at_call 225; refine (coreOk_any _ _).mono ?_; rintro e c ⟨rfl, rfl⟩) | (go_at_call 156; refine (between_any _ _ _ _).mono ?_; rintro e c ⟨rfl, rfl⟩))
   go_ret
   exact ⟨rfl, n.out _⟩
  ·have p : (s == 0) = false := beq_false_of_ne g;have i : Hid (whoI o s = false) := by unfold Hid whoI; simp [j, g]
   rw [i.out];go_enter Tryz.func253, Tryz.ntmps253;go_wp2_with (first | (go_at_call 225; refine (coreOk_any _ _).mono ?_; rintro e c ⟨rfl, rfl⟩) | (go_at_call 156; refine (between_any _ _ _ _).mono ?_; rintro e c ⟨rfl, rfl⟩))
   go_ret
   exact ⟨rfl, n.out _⟩
theorem req_not {k f l : Int} (h : ¬ k = 0 ∨ ¬ f = 0 ∨ ¬ l = 0) : reqI false k f l = false := by
 unfold reqI;rw [if_neg (by decide)];rcases h with h | h | h <;> simp [h]
theorem requestOk_any (o s k f l m : Int) (b : Bool) (d : List Int) (a : Option Addr) (cap : Nat) (w : World) :
    Calls Tryz.prog 254 #[.agg #[nI o, nI s, .bool b, nI k, nI f, nI l, nI m, sL a d.length cap]] w fun e c => e = .returned (.bool (reqI b k f l)) ∧ Bl w c := by
 have i : Hid _ := box_below w;cases b
 ·skip
  by_cases j : k = 0
  ·subst j;by_cases p : f = 0
   ·subst p;by_cases n : l = 0
    ·subst n;go_enter Tryz.func254, Tryz.ntmps254;go_wp2_with (first | (go_at_call 273; refine (askerOk_any _ _ _).mono ?_; rintro e c ⟨rfl, rfl⟩) | (go_at_call 274; refine (leftOk_any _ _ _).mono ?_; rintro e c ⟨rfl, rfl⟩))
     go_ret
     exact ⟨rfl, i.out _⟩
    ·have y : (l == 0) = false := beq_false_of_ne n;have g : Hid (reqI false 0 0 l = false) := req_not (.inr (.inr n));rw [g.out];go_enter Tryz.func254, Tryz.ntmps254;go_wp2_with (first | (go_at_call 273; refine (askerOk_any _ _ _).mono ?_; rintro e c ⟨rfl, rfl⟩) | (go_at_call 274; refine (leftOk_any _ _ _).mono ?_; rintro e c ⟨rfl, rfl⟩))
     go_ret
     exact ⟨rfl, i.out _⟩
   ·have r : (f == 0) = false := beq_false_of_ne p;have g : Hid (reqI false 0 f l = false) := req_not (.inr (.inl p));rw [g.out];go_enter Tryz.func254, Tryz.ntmps254;go_wp2_with (first | (go_at_call 273; refine (askerOk_any _ _ _).mono ?_; rintro e c ⟨rfl, rfl⟩) | (go_at_call 274; refine (leftOk_any _ _ _).mono ?_; rintro e c ⟨rfl, rfl⟩))
    go_ret
    exact ⟨rfl, i.out _⟩
  ·have v : (k == 0) = false := beq_false_of_ne j;have g : Hid (reqI false k f l = false) := req_not (.inl j);rw [g.out];go_enter Tryz.func254, Tryz.ntmps254;go_wp2_with (first | (go_at_call 273; refine (askerOk_any _ _ _).mono ?_; rintro e c ⟨rfl, rfl⟩) | (go_at_call 274; refine (leftOk_any _ _ _).mono ?_; rintro e c ⟨rfl, rfl⟩))
   go_ret
   exact ⟨rfl, i.out _⟩
 ·cases q : askB k f
  ·have g : Hid (reqI true k f l = false) := by unfold Hid reqI; simp [q]
   rw [g.out];go_enter Tryz.func254, Tryz.ntmps254;go_wp2_with (first | (go_at_call 273; refine (askerOk_any _ _ _).mono ?_; rintro e c ⟨rfl, rfl⟩) | (go_at_call 274; refine (leftOk_any _ _ _).mono ?_; rintro e c ⟨rfl, rfl⟩))
   go_ret
   exact ⟨rfl, i.out _⟩
  ·have g : Hid (reqI true k f l = leftB k l) := by unfold Hid reqI; simp [q]
   rw [g.out];go_enter Tryz.func254, Tryz.ntmps254;go_wp2_with (first | (go_at_call 273; refine (askerOk_any _ _ _).mono ?_; rintro e c ⟨rfl, rfl⟩) | (go_at_call 274; refine (leftOk_any _ _ _).mono ?_; rintro e c ⟨rfl, rfl⟩))
   go_ret
   exact ⟨rfl, i.out _⟩
theorem dataOk_any (o s k f l m : Int) (b : Bool) (d : List Int) (a : Option Addr) (cap : Nat) (w : World) (h : SlRd intR w a d) :
    Calls Tryz.prog 255 #[.agg #[nI o, nI s, .bool b, nI k, nI f, nI l, nI m, sL a d.length cap]] w fun e g => e = .returned (.bool (datI k m d)) ∧ Bl w g := by
 have i : Hid _ := box_below w;have q : Hid _ := fun (W : World) (p : Bl w W) => implLineOk_any a d cap W (reads_of (slrd_next h p));clear h;by_cases n : k = 4
 ·subst n;cases j : betw m 0 3
  ·have c : Hid (datI 4 m d = false) := by unfold Hid datI; simp [j]
   rw [c.out];go_enter Tryz.func255, Tryz.ntmps255;go_wp2_with (first | (go_at_call 160; refine (maskOk_any _ _).mono ?_; rintro e g ⟨rfl, rfl⟩) | (go_at_call 91; refine (q.out _ (i.out _)).mono ?_; rintro e g ⟨rfl, p⟩))
   go_ret
   exact ⟨rfl, i.out _⟩
  ·have c : Hid (datI 4 m d = isL d) := by unfold Hid datI; simp [j]
   rw [c.out];go_enter Tryz.func255, Tryz.ntmps255;go_wp2_with (first | (go_at_call 160; refine (maskOk_any _ _).mono ?_; rintro e g ⟨rfl, rfl⟩) | (go_at_call 91; refine (q.out _ (i.out _)).mono ?_; rintro e g ⟨rfl, p⟩))
   go_ret
   exact ⟨rfl, below_step (i.out _) p⟩
 ·have C : (k == 4) = false := beq_false_of_ne n;clear q;by_cases j : m = 0
  ·subst j;by_cases v : d.length = 0
   ·have r : d = [] := List.eq_nil_of_length_eq_zero v;subst r;have c : Hid (datI k 0 ([] : List Int) = true) := by unfold Hid datI; simp [n]
    rw [c.out];go_enter Tryz.func255, Tryz.ntmps255;go_wp2_with (first | (go_at_call 160; refine (maskOk_any _ _).mono ?_; rintro e g ⟨rfl, rfl⟩))
    go_ret
    exact ⟨rfl, i.out _⟩
   ·have B : ¬ (d = []) := fun e => v (by rw [e]; rfl);have A : ¬ ((d.length : Int) = 0) := by omega
    have y : ((d.length : Int) == 0) = false := beq_false_of_ne A;have c : Hid (datI k 0 d = false) := by unfold Hid datI; simp [n, v]
    rw [c.out];go_enter Tryz.func255, Tryz.ntmps255;go_wp2_with (first | (go_at_call 160; refine (maskOk_any _ _).mono ?_; rintro e g ⟨rfl, rfl⟩))
    go_ret
    exact ⟨rfl, i.out _⟩
  ·have z : (m == 0) = false := beq_false_of_ne j;have c : Hid (datI k m d = false) := by unfold Hid datI; simp [n, j]
   rw [c.out];go_enter Tryz.func255, Tryz.ntmps255;go_wp2_with (first | (go_at_call 160; refine (maskOk_any _ _).mono ?_; rintro e g ⟨rfl, rfl⟩))
   go_ret
   exact ⟨rfl, i.out _⟩
theorem implEntryOk_any (o s k f l m : Int) (b : Bool) (d : List Int) (a : Option Addr) (cap : Nat) (w : World) (h : SlRd intR w a d) :
    Calls Tryz.prog 222 #[.agg #[nI o, nI s, .bool b, nI k, nI f, nI l, nI m, sL a d.length cap]] w fun e w' => e = .returned (.bool (entB (o, s, b, k, f, l, m, d))) ∧ Bl w w' := by
 have g : Hid _ := fun (W : World) (hb : Bl w W) => dataOk_any o s k f l m b d a cap W (slrd_next h hb);have i : Hid (∀ W, Calls Tryz.prog 254 #[.agg #[nI o, nI s, .bool b, nI k, nI f, nI l, nI m, sL a d.length cap]] W fun e w' => e = .returned (.bool (reqI b k f l)) ∧ Bl W w') := fun W => requestOk_any o s k f l m b d a cap W;have j : Hid (∀ W, Calls Tryz.prog 253 #[.agg #[nI o, nI s, .bool b, nI k, nI f, nI l, nI m, sL a d.length cap]] W fun e w' => e = .returned (.bool (whoI o s)) ∧ Bl W w') := fun W => holdersOk_any o s k f l m b d a cap W;clear h;rw [ent_parts];generalize whoI o s = p at j ⊢;generalize reqI b k f l = q at i ⊢;generalize datI k m d = r at g ⊢;go_enter Tryz.func222, Tryz.ntmps222;go_wp2_with fail
 generalize c : w.alloc _ = W0;have X := boxH c;have B := boxB c;clear c;refine (j.out _).mono ?_;rintro e w1 ⟨rfl, z⟩;replace X := row_keep z X;replace B := below_step B z;obtain ⟨G, D, F, E, y, v, n, C⟩ := cells_8 X;clear z j;cases p
 ·clear i g X;go_wp2_with fail
  go_ret
  exact ⟨rfl, B⟩
 ·go_wp2_with fail
  refine (i.out _).mono ?_;rintro e w2 ⟨rfl, A⟩;clear G D F E y v n C i;replace X := row_keep A X;replace B := below_step B A;obtain ⟨G, D, F, E, y, v, n, C⟩ := cells_8 X;clear A;cases q
  ·clear g X;go_wp2_with fail
   go_ret
   exact ⟨rfl, B⟩
  ·go_wp2_with fail
   refine (g.out _ B).mono ?_;rintro e w3 ⟨rfl, H⟩;replace B := below_step B H;clear H g X G D F E y v n C;go_wp2_with fail
   go_ret
   exact ⟨rfl, B⟩
theorem Tryz.infoI64 : (Tryz.prog.info? 2).map (fun i => (i.zero, i.size, i.bytes)) = some (some (nI 0), 1, 8) := by kernel_rfl
def mems (s : Int) : Nat → List Int
 | 0 => []
 | k + 1 => if inB s k then mems s k ++ [(k : Int)] else mems s k
theorem mems_le (s : Int) : ∀ k, (mems s k).length ≤ k
 | 0 => Nat.le_refl _
 | k + 1 => by
  have := mems_le s k;unfold mems;split
  ·simp; omega
  ·omega
theorem mems_hit {s : Int} {k : Nat} (h : inB s k = true) : mems s (k + 1) = mems s k ++ [(k : Int)] := by simp [mems, h]
theorem mems_miss {s : Int} {k : Nat} (h : inB s k = false) : mems s (k + 1) = mems s k := by simp [mems, h]
theorem own_shape {w : World} {B : Nat} {e : TypeId} {v : Value} {n : Nat} {xs : List Value} (h : w.ownsRow B e 1 v n xs) (hv : v ≠ sL none 0 0) :
    ∃ g a, v = sL (some ⟨g, 0, none⟩) n a ∧ B ≤ g ∧ g < w.heap.size ∧ n ≤ a ∧ a ≤ maxLen := by
 rcases h.2 with ⟨rfl, _⟩ | ⟨g, a, c, rfl, f, i, d, b, _⟩
 ·exact absurd rfl hv
 ·exact ⟨g, a, rfl, f, (ltH i), d, b⟩
def ownB (o c : Int) : Bool := betw c 0 3 && decide (c = o)
def holB (o s c : Int) : Bool := ownB o c || inB s c
def holL (o s : Int) : Nat → List Int
 | 0 => []
 | k + 1 => if holB o s k then holL o s k ++ [(k : Int)] else holL o s k
theorem holL_le (o s : Int) : ∀ k, (holL o s k).length ≤ k
 | 0 => Nat.le_refl _
 | k + 1 => by
  have := holL_le o s k;unfold holL;split
  ·simp; omega
  ·omega
theorem holL_hit {o s : Int} {k : Nat} (h : holB o s k = true) : holL o s (k + 1) = holL o s k ++ [(k : Int)] := by simp [holL, h]
theorem holL_miss {o s : Int} {k : Nat} (h : holB o s k = false) : holL o s (k + 1) = holL o s k := by simp [holL, h]
def hoI (o s : Int) : List Int := if 0 ≤ o then [o] else mems s 8
theorem who_alone {o s : Int} (h : whoB o s = true) (ho : 0 ≤ o) : s = 0 := by
 simp [whoB] at h
 have := h.2.2;omega
theorem holL_none (s : Int) : ∀ k, holL (-1) s k = mems s k
 | 0 => rfl
 | k + 1 => by
  have e : holB (-1) s k = inB s k := by
   unfold holB ownB;rw [show decide ((k : Int) = -1) = false from decide_eq_false (by omega)];simp
  unfold holL mems;rw [e, holL_none s k]
theorem holL_fin : ∀ o : Fin 4, holL (o.val : Int) 0 8 = [(o.val : Int)] := by decide +kernel
theorem holL_eq {o s : Int} (h : whoB o s = true) : holL o s 8 = hoI o s := by
 unfold hoI;by_cases a : 0 ≤ o
 ·rw [if_pos a, who_alone h a];have b : o ≤ 3 := by simp [whoB, betw] at h; omega
  have := holL_fin ⟨o.toNat, by omega⟩;simpa [Int.toNat_of_nonneg a] using this
 ·rw [if_neg a];have b : o = -1 := by simp [whoB, betw] at h; omega
  rw [b];exact holL_none s 8
theorem cells_2p {w : World} {g : Nat} {x0 x1 : Value} {t : TypeId} (h : w.heap[g]? = some (.cells #[x0, x1] t (0, 0))) :
    w.cell? ⟨g, 0, none⟩ = some x0 ∧ w.cell? ⟨g, 1, none⟩ = some x1 :=
 ⟨by rw [cell_of_row w g 0 _ t (0, 0) h]; rfl, by rw [cell_of_row w g 1 _ t (0, 0) h]; rfl⟩
theorem owns_any (o s c : Int) (w : World) :
    Calls Tryz.prog 178 #[.agg #[nI s, nI o], nI c] w fun e b => e = .returned (.bool (ownB o c)) ∧ Bl w b := by
 have d : Hid _ := box_below w;cases f : betw c 0 3
 ·have a : Hid (ownB o c = false) := by unfold Hid ownB; simp [f]
  rw [a.out];go_enter Tryz.func178, Tryz.ntmps178;go_wp2_with (go_at_call 225; refine (coreOk_any _ _).mono ?_; rintro e b ⟨rfl, rfl⟩)
  go_ret
  exact ⟨rfl, d.out _⟩
 ·have a : Hid (ownB o c = (c == o)) := by unfold Hid ownB; rw [f]; by_cases e : c = o <;> simp [e]
  rw [a.out];generalize (c == o) = t at a ⊢;by_cases g : c = o
  ·subst g;have i : t = true := by rw [← a.out]; unfold ownB; simp [f]
   subst i;clear a;go_enter Tryz.func178, Tryz.ntmps178;go_wp2_with (go_at_call 225; refine (coreOk_any _ _).mono ?_; rintro e b ⟨rfl, rfl⟩)
   go_ret
   exact ⟨rfl, d.out _⟩
  ·have j : (c == o) = false := beq_false_of_ne g;have i : t = false := by rw [← a.out]; unfold ownB; simp [g]
   subst i;clear a;go_enter Tryz.func178, Tryz.ntmps178;go_wp2_with (go_at_call 225; refine (coreOk_any _ _).mono ?_; rintro e b ⟨rfl, rfl⟩)
   go_ret
   exact ⟨rfl, d.out _⟩
theorem holds_any (o s c : Int) (w : World) :
    Calls Tryz.prog 224 #[.agg #[nI s, nI o], nI c] w fun e b => e = .returned (.bool (holB o s c)) ∧ Bl w b := by
 have d : Hid (∀ W, Calls Tryz.prog 178 #[.agg #[nI s, nI o], nI c] W fun e b => e = .returned (.bool (ownB o c)) ∧ Bl W b) := fun W => owns_any o s c W;unfold holB;generalize ownB o c = p at d ⊢;go_enter Tryz.func224, Tryz.ntmps224;go_wp2_with fail
 generalize a : w.alloc _ = W0;have X := boxH a;have B := boxB a;clear a;refine (d.out _).mono ?_;rintro e w1 ⟨rfl, f⟩;replace X := row_keep f X;replace B := below_step B f;obtain ⟨x0, x1⟩ := cells_2p X;clear f d X;cases p
 ·go_wp2_with (go_at_call 219; refine (has_any _ _ _).mono ?_; rintro e b ⟨rfl, rfl⟩)
  go_ret
  exact ⟨rfl, B⟩
 ·go_wp2_with fail
  go_ret
  exact ⟨rfl, B⟩
theorem chosenP_any (o s : Int) (w : World) :
    Calls Tryz.prog 223 #[.func (.func 224) #[.agg #[nI s, nI o]] #[]] w fun e B => ∃ v, e = .returned v ∧ Made w B v (holL o s 8) := by
 obtain ⟨Y, T, I, K, F⟩ := info_parts Tryz.infoI64;go_enter Tryz.func223, Tryz.ntmps223;go_wp2;go_loopw [3, 4] (fun v i wr => ∃ k : Nat, k ≤ 8 ∧ i = nI k ∧ v ≠ sL none 0 0 ∧ wr.ownsRow w.heap.size 2 1 v (holL o s k).length ((holL o s k).map (Value.int .i64)) ∧ Bl w wr)
  (fun _ i _ => 8 - (intOf i).toNat)
 case atStart => exact ⟨0, by omega, rfl, by simp, World.ownsRow_lit _ #[] 0 (Nat.le_refl _) (Nat.zero_le _) rfl, (Below.refl _ _).alloc (Nat.le_refl _) _⟩
 case round =>
  obtain ⟨k, hk, rfl, D, a, c⟩ := hrel;have V := holL_le o s k;have aA := c.size;by_cases X : k < 8
  ·have H : Hid (∀ W, Calls Tryz.prog 224 #[.agg #[nI s, nI o], nI (k : Int)] W fun e B => e = .returned (.bool (holB o s k)) ∧ Bl W B) := fun W => holds_any o s k W;have L : Hid (∀ b, holB o s k = b → if b then holL o s (k + 1) = holL o s k ++ [(k : Int)] else holL o s (k + 1) = holL o s k) := fun b e => by
    cases b
    ·exact holL_miss e
    ·exact holL_hit e
   obtain ⟨q, J⟩ : ∃ q, holB o s k = q := ⟨_, rfl⟩;rw [J] at H;have C := L.out q J;clear L J;obtain ⟨g, cp, rfl, A, l, Z, S⟩ := own_shape a D;cases q
   ·have n : Hid (holL o s (k + 1) = holL o s k) := C;clear C;go_wp2_with (go_at_call 224; refine (H.out _).mono ?_; rintro e B ⟨rfl, p⟩; replace a := own_below a p l; replace c := below_step c p; clear p)
    go_roundw
    case rel => exact ⟨k + 1, by omega, by go_num, D, by rw [n.out]; exact a, c⟩
    case measure => simp [intOf]; omega
   ·have n : Hid (holL o s (k + 1) = holL o s k ++ [(k : Int)]) := C;clear C;go_wp2_with fail
    refine (H.out _).mono ?_;rintro e w2 ⟨rfl, p⟩;replace a := own_below a p l;replace c := below_step c p;have y := c.size;clear p l;go_wp2_with (at_builtin; refine wpList_append_own _ rfl _ _ 68 rfl w.heap.size 2 Y (nI 0) 1 8 Tryz.underlying68 T I K F rfl (by decide) _ _ _ rfl (a.alloc _) ⟨_, 0, none⟩ 1 1 [nI (k : Int)] rfl rfl ?c1 ?c2 ?c3 ?c4 ?c5 ?_)
    case c1 =>
     intro j u r;match j, r with
     | 0, r => simp at r; subst r; simp [Addr.add]
    case c2 => intro u N; simp at N; subst N; rfl
    case c3 => unfold maxLen; omega
    case c4 => omega
    case c5 => simp; omega
    ·intro M O d f m;have R : O.ownsRow w.heap.size 2 1 M (holL o s (k + 1)).length ((holL o s (k + 1)).map (Value.int .i64)) ∧ Bl w O :=
      ⟨by rw [n.out]; simpa using d, (c.alloc y _).grown f (by simp; omega) (fun j r => (a.lt j r).1)⟩
     have G : M ≠ sL none 0 0 := m;clear d f a m;go_wp2;go_roundw
     case rel => exact ⟨k + 1, by omega, by go_num, G, R.1, R.2⟩
     case measure => simp [intOf]; omega
  ·have E : k = 8 := by omega
   subst E;obtain ⟨g, z, rfl, A, l, _⟩ := own_shape a D;have U : Hid (Made w wr (sL (some ⟨g, 0, none⟩) (holL o s 8).length z) (holL o s 8)) := ⟨g, z, rfl, A, l, a, c⟩;clear a c D;go_wp2;go_ret
   exact ⟨_, rfl, U.out⟩
theorem page_any (o s k f l m : Int) (b : Bool) (v : Value) (w : World) :
    Calls Tryz.prog 177 #[.agg #[nI o, nI s, .bool b, nI k, nI f, nI l, nI m, v]] w fun e w' => e = .returned (.agg #[nI s, nI o]) ∧ Bl w w' := by
 have a : Hid (∀ x y, Bl w ((w.alloc x).alloc y)) := fun x y => below_step (box_below w x) (box_below _ y);go_enter Tryz.func177, Tryz.ntmps177;go_wp2;refine bodyPost_ret (v := .agg #[nI s, nI o]) (by simp [results, Tryz.results177, go_sem]) rfl ⟨rfl, a.out _ _⟩
end Go.Proofs.YtdamokokcdcedaaGreatDoor
