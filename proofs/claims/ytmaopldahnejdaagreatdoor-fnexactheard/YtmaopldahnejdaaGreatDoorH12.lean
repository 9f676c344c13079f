import Derived.Test.YtmaopldahnejdaaGreatDoorH00Box
import Derived.Test.YtmaopldahnejdaaGreatDoorH10
import Derived.Laws.IdiomCopy
import Derived.Laws.Slices
namespace Go.Proofs.YtmaopldahnejdaaGreatDoor
set_option maxHeartbeats 4000000
open Go.ChangeShapes Go.WideShapes Go.ChangeAt Go.RowKit
set_option linter.unusedVariables false
def cby (k : Int) : Bool := decide (k = 1) || decide (k = 2)
def pby (k : Int) : Bool := decide (k = 3) || decide (k = 4)
def askB (k f : Int) : Bool := (cby k && betw f 0 3) || (pby k && decide (f = 5))
def leftB (k l : Int) : Bool := if pby k then betw l 1 4 else betw l 0 4
def whoI (o s : Int) : Bool := if betw o 0 3 then decide (s = 0) else decide (o = -1) && betw s 0 15
def reqI (b : Bool) (k f l : Int) : Bool := if b then askB k f && leftB k l else decide (k = 0) && (decide (f = 0) && decide (l = 0))
def datI (k m : Int) (d : List Int) : Bool := if k = 4 then betw m 0 3 && isL d else decide (m = 0) && decide (d.length = 0)
theorem who_eq (o s : Int) : whoB o s = whoI o s := by
 unfold whoB whoI betw;rw [Bool.eq_iff_iff];by_cases h : 0 ≤ o ∧ o ≤ 3
 ·rw [if_pos (by simpa using h)];simp
  omega
 ·rw [if_neg (by simpa using h)];simp
  omega
theorem req_eq (b : Bool) (k f l m : Int) (d : List Int) : (if b then busyB k f l m d else restB k f l m d) = (reqI b k f l && datI k m d) := by
 cases b
 ·show restB k f l m d = (reqI false k f l && datI k m d)
  unfold restB reqI datI;generalize decide (d.length = 0) = z;by_cases h : k = 4
  ·subst h; simp
  ·rw [if_neg (by decide), if_neg h];cases z <;> simp [Bool.and_assoc]
 ·show busyB k f l m d = (reqI true k f l && datI k m d)
  unfold busyB reqI datI fromB loadB askB leftB cby pby betw;generalize decide (d.length = 0) = z;generalize isL d = y;cases z <;> cases y
  all_goals
   by_cases a : k = 1
   ·subst a; rw [Bool.eq_iff_iff]; simp <;> omega
   ·by_cases c : k = 2
    ·subst c; rw [Bool.eq_iff_iff]; simp <;> omega
    ·by_cases i : k = 3
     ·subst i; rw [Bool.eq_iff_iff]; simp <;> omega
     ·by_cases g : k = 4
      ·subst g; rw [Bool.eq_iff_iff]; simp <;> omega
      ·rw [Bool.eq_iff_iff];simp [a, c, i, g]
       try omega
theorem ent_parts (o s : Int) (b : Bool) (k f l m : Int) (d : List Int) : entB (o, s, b, k, f, l, m, d) = (whoI o s && (reqI b k f l && datI k m d)) := by
 rw [eb, who_eq, req_eq]
theorem coreOk_any (c : Int) (w : World) : Calls Tryz.prog 145 #[nI c] w fun e a => e = .returned (.bool (betw c 0 3)) ∧ a = w := by
 go_enter Tryz.func145, Tryz.ntmps145;go_wp2_with (go_at_call 91; refine (between_any _ _ _ _).mono ?_; rintro e a ⟨rfl, rfl⟩)
 go_ret
 exact ⟨rfl, rfl⟩
theorem byCore_any (k : Int) (w : World) : Calls Tryz.prog 171 #[nI k] w fun e w' => e = .returned (.bool (cby k)) ∧ w' = w := by
 by_cases a : k = 1
 ·subst a;go_enter Tryz.func171, Tryz.ntmps171;go_wp2;go_ret
  exact ⟨rfl, rfl⟩
 ·have d : (k == 1) = false := beq_false_of_ne a;by_cases b : k = 2
  ·subst b;go_enter Tryz.func171, Tryz.ntmps171;go_wp2;go_ret
   exact ⟨rfl, rfl⟩
  ·have c : (k == 2) = false := beq_false_of_ne b;have f : Hid (cby k = false) := by unfold Hid cby; simp [a, b]
   go_enter Tryz.func171, Tryz.ntmps171;go_wp2;go_ret
   exact ⟨ret_bool f.out.symm, rfl⟩
theorem byPort_any (k : Int) (w : World) : Calls Tryz.prog 172 #[nI k] w fun e w' => e = .returned (.bool (pby k)) ∧ w' = w := by
 by_cases a : k = 3
 ·subst a;go_enter Tryz.func172, Tryz.ntmps172;go_wp2;go_ret
  exact ⟨rfl, rfl⟩
 ·have d : (k == 3) = false := beq_false_of_ne a;by_cases b : k = 4
  ·subst b;go_enter Tryz.func172, Tryz.ntmps172;go_wp2;go_ret
   exact ⟨rfl, rfl⟩
  ·have c : (k == 4) = false := beq_false_of_ne b;have f : Hid (pby k = false) := by unfold Hid pby; simp [a, b]
   go_enter Tryz.func172, Tryz.ntmps172;go_wp2;go_ret
   exact ⟨ret_bool f.out.symm, rfl⟩
theorem askerOk_any (k f : Int) (w : World) : Calls Tryz.prog 153 #[nI k, nI f] w fun e a => e = .returned (.bool (askB k f)) ∧ a = w := by
 unfold askB;cases c : cby k
 ·cases d : pby k
  ·go_enter Tryz.func153, Tryz.ntmps153;go_wp2_with (first | (go_at_call 171; refine (byCore_any _ _).mono ?_; rintro e a ⟨rfl, rfl⟩) | (go_at_call 145; refine (coreOk_any _ _).mono ?_; rintro e a ⟨rfl, rfl⟩) | (go_at_call 172; refine (byPort_any _ _).mono ?_; rintro e a ⟨rfl, rfl⟩))
   go_ret
   exact ⟨rfl, rfl⟩
  ·by_cases b : f = 5
   ·subst b;go_enter Tryz.func153, Tryz.ntmps153;go_wp2_with (first | (go_at_call 171; refine (byCore_any _ _).mono ?_; rintro e a ⟨rfl, rfl⟩) | (go_at_call 145; refine (coreOk_any _ _).mono ?_; rintro e a ⟨rfl, rfl⟩) | (go_at_call 172; refine (byPort_any _ _).mono ?_; rintro e a ⟨rfl, rfl⟩))
    go_ret
    exact ⟨rfl, rfl⟩
   ·have j : (f == 5) = false := beq_false_of_ne b;have i : Hid (((false && betw f 0 3) || (true && decide (f = 5))) = false) := by unfold Hid; simp [b]
    rw [i.out];go_enter Tryz.func153, Tryz.ntmps153;go_wp2_with (first | (go_at_call 171; refine (byCore_any _ _).mono ?_; rintro e a ⟨rfl, rfl⟩) | (go_at_call 145; refine (coreOk_any _ _).mono ?_; rintro e a ⟨rfl, rfl⟩) | (go_at_call 172; refine (byPort_any _ _).mono ?_; rintro e a ⟨rfl, rfl⟩))
    go_ret
    exact ⟨rfl, rfl⟩
 ·cases d : betw f 0 3
  ·cases g : pby k
   ·go_enter Tryz.func153, Tryz.ntmps153;go_wp2_with (first | (go_at_call 171; refine (byCore_any _ _).mono ?_; rintro e a ⟨rfl, rfl⟩) | (go_at_call 145; refine (coreOk_any _ _).mono ?_; rintro e a ⟨rfl, rfl⟩) | (go_at_call 172; refine (byPort_any _ _).mono ?_; rintro e a ⟨rfl, rfl⟩))
    go_ret
    exact ⟨rfl, rfl⟩
   ·exfalso
    simp [cby, pby] at c g
    omega
  ·go_enter Tryz.func153, Tryz.ntmps153;go_wp2_with (first | (go_at_call 171; refine (byCore_any _ _).mono ?_; rintro e a ⟨rfl, rfl⟩) | (go_at_call 145; refine (coreOk_any _ _).mono ?_; rintro e a ⟨rfl, rfl⟩) | (go_at_call 172; refine (byPort_any _ _).mono ?_; rintro e a ⟨rfl, rfl⟩))
   go_ret
   exact ⟨rfl, rfl⟩
theorem leftOk_any (k l : Int) (w : World) : Calls Tryz.prog 154 #[nI k, nI l] w fun e a => e = .returned (.bool (leftB k l)) ∧ a = w := by
 unfold leftB;cases h1 : pby k
 ·go_enter Tryz.func154, Tryz.ntmps154;go_wp2_with (first | (go_at_call 172; refine (byPort_any _ _).mono ?_; rintro e a ⟨rfl, rfl⟩) | (go_at_call 91; refine (between_any _ _ _ _).mono ?_; rintro e a ⟨rfl, rfl⟩))
  go_ret
  exact ⟨rfl, rfl⟩
 ·go_enter Tryz.func154, Tryz.ntmps154;go_wp2_with (first | (go_at_call 172; refine (byPort_any _ _).mono ?_; rintro e a ⟨rfl, rfl⟩) | (go_at_call 91; refine (between_any _ _ _ _).mono ?_; rintro e a ⟨rfl, rfl⟩))
  go_ret
  exact ⟨rfl, rfl⟩
theorem holdersOk_any (o s k f l m : Int) (b : Bool) (d : List Int) (a : Option Addr) (cap : Nat) (w : World) :
    Calls Tryz.prog 130 #[.agg #[nI o, nI s, .bool b, nI k, nI f, nI l, nI m, sL a d.length cap]] w fun e c => e = .returned (.bool (whoI o s)) ∧ Bl w c := by
 have n : Hid _ := box_below w;cases j : betw o 0 3
 ·by_cases g : o = -1
  ·subst g;have i : Hid (whoI (-1) s = betw s 0 15) := by unfold Hid whoI; simp [j]
   rw [i.out];go_enter Tryz.func130, Tryz.ntmps130;go_wp2_with (first | (go_at_call 145; refine (coreOk_any _ _).mono ?_; rintro e c ⟨rfl, rfl⟩) | (go_at_call 91; refine (between_any _ _ _ _).mono ?_; rintro e c ⟨rfl, rfl⟩))
   go_ret
   exact ⟨rfl, n.out _⟩
  ·have p : (o == -1) = false := beq_false_of_ne g;have i : Hid (whoI o s = false) := by unfold Hid whoI; simp [j, g]
   rw [i.out];go_enter Tryz.func130, Tryz.ntmps130;go_wp2_with (first | (go_at_call 145; refine (coreOk_any _ _).mono ?_; rintro e c ⟨rfl, rfl⟩) | (go_at_call 91; refine (between_any _ _ _ _).mono ?_; rintro e c ⟨rfl, rfl⟩))
   go_ret
   exact ⟨rfl, n.out _⟩
 ·by_cases g : s = 0
  ·subst g;have i : Hid (whoI o 0 = true) := by unfold Hid whoI; simp [j]
   rw [i.out];go_enter Tryz.func130, Tryz.ntmps130;go_wp2_with (first | (go_at_call 145; refine (coreOk_any _ _).mono ?_; rintro e c ⟨rfl, rfl⟩) | (go_at_call 91; refine (between_any _ _ _ _).mono ?_; rintro e c ⟨rfl, rfl⟩))
   go_ret
   exact ⟨rfl, n.out _⟩
  ·have p : (s == 0) = false := beq_false_of_ne g;have i : Hid (whoI o s = false) := by unfold Hid whoI; simp [j, g]
   rw [i.out];go_enter Tryz.func130, Tryz.ntmps130;go_wp2_with (first | (go_at_call 145; refine (coreOk_any _ _).mono ?_; rintro e c ⟨rfl, rfl⟩) | (go_at_call 91; refine (between_any _ _ _ _).mono ?_; rintro e c ⟨rfl, rfl⟩))
   go_ret
   exact ⟨rfl, n.out _⟩
theorem req_not {k f l : Int} (h : ¬ k = 0 ∨ ¬ f = 0 ∨ ¬ l = 0) : reqI false k f l = false := by
 unfold reqI;rw [if_neg (by decide)];rcases h with h | h | h <;> simp [h]
theorem requestOk_any (o s k f l m : Int) (b : Bool) (d : List Int) (a : Option Addr) (cap : Nat) (w : World) :
    Calls Tryz.prog 131 #[.agg #[nI o, nI s, .bool b, nI k, nI f, nI l, nI m, sL a d.length cap]] w fun e c => e = .returned (.bool (reqI b k f l)) ∧ Bl w c := by
 have i : Hid _ := box_below w;cases b
 ·skip
  by_cases p : k = 0
  ·subst p;by_cases j : f = 0
   ·subst j;by_cases n : l = 0
    ·subst n;go_enter Tryz.func131, Tryz.ntmps131;go_wp2_with (first | (go_at_call 153; refine (askerOk_any _ _ _).mono ?_; rintro e c ⟨rfl, rfl⟩) | (go_at_call 154; refine (leftOk_any _ _ _).mono ?_; rintro e c ⟨rfl, rfl⟩))
     go_ret
     exact ⟨rfl, i.out _⟩
    ·have r : (l == 0) = false := beq_false_of_ne n;have g : Hid (reqI false 0 0 l = false) := req_not (.inr (.inr n));rw [g.out];go_enter Tryz.func131, Tryz.ntmps131;go_wp2_with (first | (go_at_call 153; refine (askerOk_any _ _ _).mono ?_; rintro e c ⟨rfl, rfl⟩) | (go_at_call 154; refine (leftOk_any _ _ _).mono ?_; rintro e c ⟨rfl, rfl⟩))
     go_ret
     exact ⟨rfl, i.out _⟩
   ·have v : (f == 0) = false := beq_false_of_ne j;have g : Hid (reqI false 0 f l = false) := req_not (.inr (.inl j));rw [g.out];go_enter Tryz.func131, Tryz.ntmps131;go_wp2_with (first | (go_at_call 153; refine (askerOk_any _ _ _).mono ?_; rintro e c ⟨rfl, rfl⟩) | (go_at_call 154; refine (leftOk_any _ _ _).mono ?_; rintro e c ⟨rfl, rfl⟩))
    go_ret
    exact ⟨rfl, i.out _⟩
  ·have y : (k == 0) = false := beq_false_of_ne p;have g : Hid (reqI false k f l = false) := req_not (.inl p);rw [g.out];go_enter Tryz.func131, Tryz.ntmps131;go_wp2_with (first | (go_at_call 153; refine (askerOk_any _ _ _).mono ?_; rintro e c ⟨rfl, rfl⟩) | (go_at_call 154; refine (leftOk_any _ _ _).mono ?_; rintro e c ⟨rfl, rfl⟩))
   go_ret
   exact ⟨rfl, i.out _⟩
 ·cases q : askB k f
  ·have g : Hid (reqI true k f l = false) := by unfold Hid reqI; simp [q]
   rw [g.out];go_enter Tryz.func131, Tryz.ntmps131;go_wp2_with (first | (go_at_call 153; refine (askerOk_any _ _ _).mono ?_; rintro e c ⟨rfl, rfl⟩) | (go_at_call 154; refine (leftOk_any _ _ _).mono ?_; rintro e c ⟨rfl, rfl⟩))
   go_ret
   exact ⟨rfl, i.out _⟩
  ·have g : Hid (reqI true k f l = leftB k l) := by unfold Hid reqI; simp [q]
   rw [g.out];go_enter Tryz.func131, Tryz.ntmps131;go_wp2_with (first | (go_at_call 153; refine (askerOk_any _ _ _).mono ?_; rintro e c ⟨rfl, rfl⟩) | (go_at_call 154; refine (leftOk_any _ _ _).mono ?_; rintro e c ⟨rfl, rfl⟩))
   go_ret
   exact ⟨rfl, i.out _⟩
theorem dataOk_any (o s k f l m : Int) (b : Bool) (d : List Int) (a : Option Addr) (cap : Nat) (w : World) (h : SlRd intR w a d) :
    Calls Tryz.prog 132 #[.agg #[nI o, nI s, .bool b, nI k, nI f, nI l, nI m, sL a d.length cap]] w fun e c => e = .returned (.bool (datI k m d)) ∧ Bl w c := by
 have i : Hid _ := box_below w;have v : Hid (∀ W, Bl w W → Calls Tryz.prog 115 #[sL a d.length cap] W fun e c => e = .returned (.bool (isL d)) ∧ Bl W c) := fun W p => implLineOk_any a d cap W (reads_of (slrd_next h p));clear h;by_cases n : k = 4
 ·subst n;cases j : betw m 0 3
  ·have g : Hid (datI 4 m d = false) := by unfold Hid datI; simp [j]
   rw [g.out];go_enter Tryz.func132, Tryz.ntmps132;go_wp2_with (first | (go_at_call 155; refine (maskOk_any _ _).mono ?_; rintro e c ⟨rfl, rfl⟩) | (go_at_call 115; refine (v.out _ (i.out _)).mono ?_; rintro e c ⟨rfl, p⟩))
   go_ret
   exact ⟨rfl, i.out _⟩
  ·have g : Hid (datI 4 m d = isL d) := by unfold Hid datI; simp [j]
   rw [g.out];go_enter Tryz.func132, Tryz.ntmps132;go_wp2_with (first | (go_at_call 155; refine (maskOk_any _ _).mono ?_; rintro e c ⟨rfl, rfl⟩) | (go_at_call 115; refine (v.out _ (i.out _)).mono ?_; rintro e c ⟨rfl, p⟩))
   go_ret
   exact ⟨rfl, below_step (i.out _) p⟩
 ·have y : (k == 4) = false := beq_false_of_ne n;clear v;by_cases j : m = 0
  ·subst j;by_cases q : d.length = 0
   ·have r : d = [] := List.eq_nil_of_length_eq_zero q;subst r;have g : Hid (datI k 0 ([] : List Int) = true) := by unfold Hid datI; simp [n]
    rw [g.out];go_enter Tryz.func132, Tryz.ntmps132;go_wp2_with (first | (go_at_call 155; refine (maskOk_any _ _).mono ?_; rintro e c ⟨rfl, rfl⟩))
    go_ret
    exact ⟨rfl, i.out _⟩
   ·have C : ¬ (d = []) := fun e => q (by rw [e]; rfl);have B : ¬ ((d.length : Int) = 0) := by omega
    have A : ((d.length : Int) == 0) = false := beq_false_of_ne B;have g : Hid (datI k 0 d = false) := by unfold Hid datI; simp [n, q]
    rw [g.out];go_enter Tryz.func132, Tryz.ntmps132;go_wp2_with (first | (go_at_call 155; refine (maskOk_any _ _).mono ?_; rintro e c ⟨rfl, rfl⟩))
    go_ret
    exact ⟨rfl, i.out _⟩
  ·have z : (m == 0) = false := beq_false_of_ne j;have g : Hid (datI k m d = false) := by unfold Hid datI; simp [n, j]
   rw [g.out];go_enter Tryz.func132, Tryz.ntmps132;go_wp2_with (first | (go_at_call 155; refine (maskOk_any _ _).mono ?_; rintro e c ⟨rfl, rfl⟩))
   go_ret
   exact ⟨rfl, i.out _⟩
theorem implEntryOk_any (o s k f l m : Int) (b : Bool) (d : List Int) (a : Option Addr) (cap : Nat) (w : World) (h : SlRd intR w a d) :
    Calls Tryz.prog 102 #[.agg #[nI o, nI s, .bool b, nI k, nI f, nI l, nI m, sL a d.length cap]] w fun e w' => e = .returned (.bool (entB (o, s, b, k, f, l, m, d))) ∧ Bl w w' := by
 have g : Hid (∀ W, Bl w W → Calls Tryz.prog 132 #[.agg #[nI o, nI s, .bool b, nI k, nI f, nI l, nI m, sL a d.length cap]] W fun e w' => e = .returned (.bool (datI k m d)) ∧ Bl W w') := fun W hb => dataOk_any o s k f l m b d a cap W (slrd_next h hb);have i : Hid (∀ W, Calls Tryz.prog 131 #[.agg #[nI o, nI s, .bool b, nI k, nI f, nI l, nI m, sL a d.length cap]] W fun e w' => e = .returned (.bool (reqI b k f l)) ∧ Bl W w') := fun W => requestOk_any o s k f l m b d a cap W;have z : Hid (∀ W, Calls Tryz.prog 130 #[.agg #[nI o, nI s, .bool b, nI k, nI f, nI l, nI m, sL a d.length cap]] W fun e w' => e = .returned (.bool (whoI o s)) ∧ Bl W w') := fun W => holdersOk_any o s k f l m b d a cap W;clear h;rw [ent_parts];generalize whoI o s = p at z ⊢;generalize reqI b k f l = q at i ⊢;generalize datI k m d = r at g ⊢;go_enter Tryz.func102, Tryz.ntmps102;go_wp2_with fail
 generalize c : w.alloc _ = W0;have X := boxH c;have B := boxB c;clear c;refine (z.out _).mono ?_;rintro e w1 ⟨rfl, G⟩;replace X := row_keep G X;replace B := below_step B G;obtain ⟨y, F, D, n, A, j, v, C⟩ := cells_8 X;clear G z;cases p
 ·clear i g X;go_wp2_with fail
  go_ret
  exact ⟨rfl, B⟩
 ·go_wp2_with fail
  refine (i.out _).mono ?_;rintro e w2 ⟨rfl, E⟩;clear y F D n A j v C i;replace X := row_keep E X;replace B := below_step B E;obtain ⟨y, F, D, n, A, j, v, C⟩ := cells_8 X;clear E;cases q
  ·clear g X;go_wp2_with fail
   go_ret
   exact ⟨rfl, B⟩
  ·go_wp2_with fail
   refine (g.out _ B).mono ?_;rintro e w3 ⟨rfl, H⟩;replace B := below_step B H;clear H g X y F D n A j v C;go_wp2_with fail
   go_ret
   exact ⟨rfl, B⟩
theorem Tryz.infoS : (Tryz.prog.info? 28).map (fun i => (i.zero, i.size, i.bytes)) = some (some (sL none 0 0), 1, 24) := by kernel_rfl
theorem owni_less {B B' g cap : Nat} {w : World} {zs : List Int} (h : OwnI B w g cap zs) (hb : B' ≤ B) : OwnI B' w g cap zs := own_mono h hb
theorem set_step (l ys : List Value) (v : Value) (k : Nat) (hl : l.length = k) (h2 : k < ys.length) : (l ++ ys.drop k).set k v = (l ++ [v]) ++ ys.drop (k + 1) := by
 rw [List.set_append_right _ _ (by omega), hl, Nat.sub_self, List.drop_eq_getElem_cons h2];simp only [List.set_cons_zero, List.append_assoc, List.cons_append, List.nil_append]
theorem fill_step {w wr w1 : World} {k n : Nat} {rs : List Rw} {v : Value} {xs : List Int} {ys : List Value} (hk : rs.length = k) (hkn : k < n) (hys : ys.length = n)
    (ho : Out w.heap.size wr w.heap.size n n (rs.map Rw.v ++ ys.drop k)) (hin : Inn w.heap.size wr.heap.size wr rs) (hb : Bl w wr) (hm : Made wr w1 v xs) :
    ∃ g c, v = sL (some ⟨g, 0, none⟩) xs.length c ∧ (∃ v0, w1.cell? ⟨w.heap.size, k, none⟩ = some v0) ∧ w1.frozen? ⟨w.heap.size, k, none⟩ = false ∧
     Out w.heap.size (w1.setCell ⟨w.heap.size, k, none⟩ (sL (some ⟨g, 0, none⟩) xs.length c)) w.heap.size n n ((rs ++ [(⟨g, c, xs⟩ : Rw)]).map Rw.v ++ ys.drop (k + 1)) ∧
     Inn w.heap.size (w1.setCell ⟨w.heap.size, k, none⟩ (sL (some ⟨g, 0, none⟩) xs.length c)).heap.size (w1.setCell ⟨w.heap.size, k, none⟩ (sL (some ⟨g, 0, none⟩) xs.length c)) (rs ++ [(⟨g, c, xs⟩ : Rw)]) ∧
     Bl w (w1.setCell ⟨w.heap.size, k, none⟩ (sL (some ⟨g, 0, none⟩) xs.length c)) := by
 obtain ⟨g, c, rfl, m, i, l, b⟩ := hm;have f := hb.size;have p := own_lt ho;have a : Out w.heap.size w1 w.heap.size n n (rs.map Rw.v ++ ys.drop k) := own_block ho (b.block _ p.2);have d := inn_push (inn_below hin b (Nat.le_refl _)) (owni_less l f) m i;have R := World.ownsRow.stored a k (sL (some ⟨g, 0, none⟩) xs.length c);rw [set_step _ _ _ k (by simpa using hk) (by omega)] at R;refine ⟨g, c, rfl, ?_, World.ownsRow.frozenAt a k, ?_, ?_, (below_step hb b).grown R.2 (Nat.le_trans f b.size) (by intro j o; cases o; exact Nat.le_refl _)⟩
 ·rw [World.ownsRow.cellAt a k (by omega)];exact ⟨_, List.getElem?_eq_getElem (by have := a.1; omega)⟩
 ·have := R.1;rw [List.map_append];exact this
 ·exact inn_mono (inn_out d a R.2) R.2.size
theorem fill_end {w wr : World} {n : Nat} {rs : List Rw} {xss : List (List Int)} {ys : List Value} (hx : rs.map Rw.xs = xss) (hn : xss.length = n) (hys : ys.length = n)
    (ho : Out w.heap.size wr w.heap.size n n (rs.map Rw.v ++ ys.drop n)) (hin : Inn w.heap.size wr.heap.size wr rs) (hb : Bl w wr) : MadeM w wr (sL (some ⟨w.heap.size, 0, none⟩) xss.length n) xss := by
 rw [List.drop_of_length_le (by omega), List.append_nil] at ho;exact ⟨_, _, rfl, Nat.le_refl _, (own_lt ho).2, ⟨rs, hx, by rw [hn]; exact ho, (own_lt ho).2, hin⟩, hb⟩
theorem take_push {xss : List (List Int)} {rs : List Rw} {k g c : Nat} {xs : List Int} (h : rs.map Rw.xs = xss.take k) (hx : xss[k]? = some xs) : (rs ++ [(⟨g, c, xs⟩ : Rw)]).map Rw.xs = xss.take (k + 1) := by
 rw [List.map_append, h, List.take_add_one, hx];rfl
theorem out_made (w : World) (n : Nat) (hn : n ≤ maxLen) : Out w.heap.size (w.alloc (.cells (madeCells #[sL none 0 0] n) 28)) w.heap.size n n (madeCells #[sL none 0 0] n).toList :=
 World.ownsRow_lit (base := w.heap.size) (e := 28) (size := 1) w (madeCells #[sL none 0 0] n) n (Nat.le_refl _) hn (by simp [size_madeCells])
theorem linesOk_any (k : Int) (w : World) : Calls Tryz.prog 44 #[nI k] w fun e a => e = .returned (.bool (betw k 1 16)) ∧ a = w := by
 go_enter Tryz.func44, Tryz.ntmps44;go_wp2_with (go_at_call 91; refine (between_any _ _ _ _).mono ?_; rintro e a ⟨rfl, rfl⟩)
 go_ret
 exact ⟨rfl, rfl⟩
theorem made_none3 (w : World) (k : Nat) (h : k = w.heap.size) : Made w (w.alloc (.cells #[] 2)) (sL (some ⟨k, 0, none⟩) 0 0) [] := by
 subst h;exact made_lit w #[] [] rfl (Nat.zero_le _)
theorem reads_step {w w1 : World} {a : Option Addr} {xs : List Int} (h : Reads w a xs) (hb : Bl w w1) (o : Obj) : Reads (w1.alloc o) a xs :=
 reads_below h (hb.alloc hb.size o)
theorem implMasked_no (a a2 : Option Addr) (xs ys : List Int) (cap cap2 : Nat) (m : Int) (w : World) (h : Reads w a xs) (h2 : Reads w a2 ys) (hn : (isL xs && isL ys && betw m 0 3) = false) :
    Calls Tryz.prog 176 #[sL a xs.length cap, sL a2 ys.length cap2, nI m] w fun e g => ∃ v, e = .returned v ∧ Made w g v [] := by
 have d : ∀ b c f : Bool, isL xs = b → isL ys = c → betw m 0 3 = f → (b && c && f) = false →
     Calls Tryz.prog 176 #[sL a xs.length cap, sL a2 ys.length cap2, nI m] w fun e g => ∃ v, e = .returned v ∧ Made w g v [] := by
  intro b c f k j l n;cases b <;> cases c <;> cases f
  case true.true.true => simp at n
  all_goals
   go_enter Tryz.func176, Tryz.ntmps176;go_wp2_with fail
   refine (wordsOf_any _ xs _ _ h).mono ?_;rintro e w1 ⟨x, y, rfl, b⟩;rw [k];have i := reads_step h2 b (.cells #[nI x, nI y] 140);go_wp2_with fail
   refine (wordsOf_any _ ys _ _ i).mono ?_;rintro e w2 ⟨x2, y2, rfl, c⟩;rw [j];have B := below_step (b.alloc b.size _) c;clear i b c;go_wp2_with (go_at_call 155; refine (maskOk_any _ _).mono ?_; rintro e g ⟨rfl, rfl⟩; rw [l])
   go_ret
   exact ⟨_, rfl, made_step (B.alloc B.size _) (made_none3 _ _ (by simp))⟩
 exact d _ _ _ rfl rfl rfl hn
theorem implMasked_yes (a a2 : Option Addr) (x y x2 y2 : Int) (cap cap2 : Nat) (m : Int) (w : World) (h : Reads w a [x, y]) (h2 : Reads w a2 [x2, y2])
    (hx : okW x = true) (hy : okW y = true) (hx2 : okW x2 = true) (hy2 : okW y2 = true) (hm : betw m 0 3 = true) :
    Calls Tryz.prog 176 #[sL a 2 cap, sL a2 2 cap2, nI m] w fun e f => ∃ v, e = .returned v ∧ Made w f v (maskL [x, y] [x2, y2] m) := by
 have D : Hid (maskL [x, y] [x2, y2] m = [if m % 2 = 1 then x2 else x, if m / 2 % 2 = 1 then y2 else y]) := by
  unfold Hid maskL; simp [isL_yes hx hy, isL_yes hx2 hy2, hm]
 have b : ∀ o n : Bool, inB m 0 = o → inB m 1 = n → [if o then x2 else x, if n then y2 else y] = [if m % 2 = 1 then x2 else x, if m / 2 % 2 = 1 then y2 else y] →
     Calls Tryz.prog 176 #[sL a 2 cap, sL a2 2 cap2, nI m] w fun e f => ∃ v, e = .returned v ∧ Made w f v (maskL [x, y] [x2, y2] m) := by
  intro o n e0 e1 A;have C : Hid _ := A;clear A;cases o <;> cases n
  all_goals
   go_enter Tryz.func176, Tryz.ntmps176;go_wp2_with fail
   refine (wordsOf_yes _ x y _ _ h hx hy).mono ?_;rintro e g ⟨rfl, k⟩;have z := reads_step h2 k (.cells #[nI x, nI y] 140);go_wp2_with fail
   refine (wordsOf_yes _ x2 y2 _ _ z hx2 hy2).mono ?_;rintro e d ⟨rfl, q⟩;have R := row_keep q (heap_alloc_new g (.cells #[nI x, nI y] 140));have r := k.size;have B := below_step (k.alloc k.size _) q;have i : g.heap.size < d.heap.size := (ltH R);clear z k q;go_wp2_with (go_at_call 155; refine (maskOk_any _ _).mono ?_; rintro e f ⟨rfl, rfl⟩)
   have p := (Below.heap_alloc d (.cells #[nI x2, nI y2] 140) _ i).trans R;have F := heap_alloc_new d (.cells #[nI x2, nI y2] 140);have l := B.alloc B.size (.cells #[nI x2, nI y2] 140);have j : g.heap.size ≠ d.heap.size := by omega
   have c : w.heap.size ≤ g.heap.size := r;clear R B i;generalize d.alloc (.cells #[nI x2, nI y2] 140) = W at p F l ⊢;generalize d.heap.size = g2 at F j ⊢;generalize g.heap.size = g1 at p j c ⊢;obtain ⟨q0, q1⟩ := cell_two p;obtain ⟨f0, f1⟩ := froz_two p;obtain ⟨y0, y1⟩ := cell_two F;refine wp_loop_rounds 3 ?_;rw [rounds_succ];go_wp2_with (go_at_call 180; refine (implIn_any _ _ _).mono ?_; rintro e f ⟨rfl, rfl⟩)
   rw [rounds_succ];go_wp2_with (go_at_call 180; refine (implIn_any _ _ _).mono ?_; rintro e f ⟨rfl, rfl⟩)
   rw [rounds_succ];go_wp2_with (go_at_call 181; refine (twoList_any _ _ _).mono ?_; rintro e w3 ⟨v, rfl, s⟩)
   go_ret
   rw [D.out, ← C.out];first | exact ⟨_, rfl, made_step l s⟩ | exact ⟨_, rfl, made_step (l.setCell c _) s⟩ | exact ⟨_, rfl, made_step ((l.setCell c _).setCell c _) s⟩
 rcases betw_four hm with rfl | rfl | rfl | rfl
 ·exact b false false (by decide +kernel) (by decide +kernel) rfl
 ·exact b true false (by decide +kernel) (by decide +kernel) rfl
 ·exact b false true (by decide +kernel) (by decide +kernel) rfl
 ·exact b true true (by decide +kernel) (by decide +kernel) rfl
theorem implMasked_any (a a2 : Option Addr) (xs ys : List Int) (cap cap2 : Nat) (m : Int) (w : World) (h : Reads w a xs) (h2 : Reads w a2 ys) :
    Calls Tryz.prog 176 #[sL a xs.length cap, sL a2 ys.length cap2, nI m] w fun e w' => ∃ v, e = .returned v ∧ Made w w' v (maskL xs ys m) := by
 by_cases b : (isL xs && isL ys && betw m 0 3) = false
 ·have e : maskL xs ys m = [] := by unfold maskL; rw [b]; rfl
  rw [e];exact implMasked_no a a2 xs ys cap cap2 m w h h2 b
 ·rcases isL_cases xs with c | ⟨x, y, rfl, k, i⟩
  ·simp [c] at b
  rcases isL_cases ys with c | ⟨j, l, rfl, f, d⟩
  ·simp [c] at b
  cases g : betw m 0 3
  ·simp [g] at b
  exact implMasked_yes a a2 x y j l cap cap2 m w h h2 k i f d g
theorem made_zeroM (n : Nat) : (madeCells #[nI 0] n).toList = (List.replicate n (0 : Int)).map (Value.int .i64) := by
 apply List.ext_getElem?
 intro i;simp only [madeCells, Array.toList_map, Array.toList_range, List.getElem?_map, List.getElem?_replicate];by_cases h : i < n
 ·simp [h, Nat.mod_one]
 ·simp [h]
theorem owni_cap {B g cap : Nat} {w : World} {zs : List Int} (h : OwnI B w g cap zs) : zs.length ≤ cap ∧ cap ≤ maxLen := by
 rcases h.2 with ⟨a, _⟩ | ⟨g', b, d, a, i, c, j, f, rest⟩
 ·simp at a
 ·simp only [Value.slice.injEq, Option.some.injEq, Addr.mk.injEq, and_true, true_and] at a;obtain ⟨rfl, rfl⟩ := a;exact ⟨j, f⟩
theorem newRow_any (n : Nat) (w : World) (hn : n ≤ 16) : Calls Tryz.prog 92 #[nI n] w fun e w' => ∃ v, e = .returned v ∧ Made w w' v (List.replicate (n * 2) 0) := by
 have a := Go.run_make_row' (P := Tryz.prog) 112 2 (nI 0) 8 Tryz.underlying112 Tryz.infoI rfl .i64 .i64 (n * 2) (by omega) (by omega);have b : ((n * 2 : Nat) : Int) = (n : Int) * 2 := by omega
 simp only [b] at a;have M := made_lit w (madeCells #[nI 0] (n * 2)) (List.replicate (n * 2) 0) (made_zeroM _) (by unfold maxLen; simp; omega);rw [List.length_replicate] at M;have c : Hid _ := M;clear M;go_enter Tryz.func92, Tryz.ntmps92;go_wp2;go_ret
 exact ⟨_, rfl, c.out⟩
theorem rowLines_any (a : Option Addr) (m n cap : Nat) (w : World) (hn : m ≤ 16) (he : n = m * 2) : Calls Tryz.prog 121 #[sL a n cap] w fun e w' => e = .returned (nI m) ∧ w' = w := by
 subst he;have e2 : Int.tdiv ((m : Int) * 2) 2 = m := by rw [Int.tdiv_eq_ediv_of_nonneg (by omega)]; omega
 go_enter Tryz.func121, Tryz.ntmps121;go_wp2;go_ret
 refine ⟨ret_int ?_, rfl⟩;first | rfl | (simp; done) | omega | (simp; omega)
theorem rowHas_any (a : Option Addr) (m n cap : Nat) (k : Int) (w : World) (hn : m ≤ 16) (he : n = m * 2) : Calls Tryz.prog 139 #[sL a n cap, nI k] w fun e b => e = .returned (.bool (betw k 0 ((m : Int) - 1))) ∧ b = w := by
 have c : Hid (n = m * 2) := he;clear he;go_enter Tryz.func139, Tryz.ntmps139
 go_wp2_with (first
  | (go_at_call 121; refine (rowLines_any _ m _ _ _ hn c.out).mono ?_; rintro e b ⟨rfl, rfl⟩)
  | (go_at_call 91; refine (between_any _ _ _ _).mono ?_; rintro e b ⟨rfl, rfl⟩))
 go_ret
 exact ⟨rfl, rfl⟩
theorem cut_any (g n cap j : Nat) (w : World) (hj : j ≤ 16) (h : j * 2 + 2 ≤ cap) : Calls Tryz.prog 128 #[sL (some ⟨g, 0, none⟩) n cap, nI j] w fun e w' => e = .returned (sL (some ⟨g, j * 2, none⟩) 2 2) ∧ w' = w := by
 go_enter Tryz.func128, Tryz.ntmps128;go_wp2;go_ret
 refine ⟨?_, rfl⟩;have a : j * 2 + 2 - j * 2 = 2 := by omega
 rw [a];rfl
end Go.Proofs.YtmaopldahnejdaaGreatDoor
