import Derived.Test.YtmaopldahnejdaaGreatDoorH00Box
import Derived.Test.YtmaopldahnejdaaGreatDoorH17
namespace Go.Proofs.YtmaopldahnejdaaGreatDoor
set_option maxHeartbeats 4000000
open Go.ChangeShapes Go.WideShapes Go.ChangeAt Go.RowKit
set_option linter.unusedVariables false
def endsB (r f t : Int) : Bool := betw r 0 2 && (betw f 0 5 && betw t 0 5)
def dataB (d : List Int) : Bool := d.isEmpty || isL d
def msgB (u : MsgD) : Bool := endsB u.1 u.2.1 u.2.2.1 && (betw u.2.2.2.1 1 15 && (betw u.2.2.2.2.1 0 15 && (dataB u.2.2.2.2.2.1 && betw u.2.2.2.2.2.2 0 15)))
theorem data_nil {d : List Int} (h : d.length = 0) : dataB d = true := by
 have : d = [] := List.eq_nil_of_length_eq_zero h;subst this;rfl
theorem data_line {d : List Int} (h : ¬ d.length = 0) : dataB d = isL d := by
 cases d with
 | nil => exact (h rfl).elim
 | cons x r => rfl
theorem mb {r f t k l g : Int} {d : List Int} : msgB (r, f, t, k, l, d, g) = (endsB r f t && (betw k 1 15 && (betw l 0 15 && (dataB d && betw g 0 15)))) := rfl
theorem lineNo_any (k : Int) (w : World) : Calls Tryz.prog 114 #[nI k] w fun e a => e = .returned (.bool (betw k 0 15)) ∧ a = w := by
 go_enter Tryz.func114, Tryz.ntmps114;go_wp2_with (go_at_call 91; refine (between_any _ _ _ _).mono ?_; rintro e a ⟨rfl, rfl⟩)
 go_ret
 exact ⟨rfl, rfl⟩
theorem implEnds_any (f0 f1 f2 f3 f4 f6 : Int) (d : List Int) (a : Option Addr) (cap : Nat) (w : World) :
    Calls Tryz.prog 113 #[.agg #[nI f0, nI f1, nI f2, nI f3, nI f4, sL a d.length cap, nI f6]] w fun e b => e = .returned (.bool (endsB f0 f1 f2)) ∧ Bl w b := by
 have c : Hid _ := box_below w;unfold endsB;cases h1 : betw f0 0 2
 ·go_enter Tryz.func113, Tryz.ntmps113;go_wp2_with (go_at_call 91; refine (between_any _ _ _ _).mono ?_; rintro e b ⟨rfl, rfl⟩)
  go_ret
  exact ⟨rfl, c.out _⟩
 ·cases h2 : betw f1 0 5
  ·go_enter Tryz.func113, Tryz.ntmps113;go_wp2_with (go_at_call 91; refine (between_any _ _ _ _).mono ?_; rintro e b ⟨rfl, rfl⟩)
   go_ret
   exact ⟨rfl, c.out _⟩
  ·go_enter Tryz.func113, Tryz.ntmps113;go_wp2_with (go_at_call 91; refine (between_any _ _ _ _).mono ?_; rintro e b ⟨rfl, rfl⟩)
   go_ret
   exact ⟨rfl, c.out _⟩
theorem implMsgOk_any (f0 f1 f2 f3 f4 f6 : Int) (d : List Int) (a : Option Addr) (cap : Nat) (w : World) (h : SlRd intR w a d) :
    Calls Tryz.prog 87 #[.agg #[nI f0, nI f1, nI f2, nI f3, nI f4, sL a d.length cap, nI f6]] w fun e c => e = .returned (.bool (msgB (f0, f1, f2, f3, f4, d, f6))) ∧ Bl w c := by
 have f : Hid (∀ W, Calls Tryz.prog 113 #[.agg #[nI f0, nI f1, nI f2, nI f3, nI f4, sL a d.length cap, nI f6]] W fun e c => e = .returned (.bool (endsB f0 f1 f2)) ∧ Bl W c) := fun W => implEnds_any f0 f1 f2 f3 f4 f6 d a cap W;have q : Hid (∀ W, Bl w W → Calls Tryz.prog 115 #[sL a d.length cap] W fun e c => e = .returned (.bool (isL d)) ∧ Bl W c) := fun W k => implLineOk_any a d cap W (reads_of (slrd_next h k));have X := heap_at w (.cells #[nI f0, nI f1, nI f2, nI f3, nI f4, sL a d.length cap, nI f6] 30);have B := box_below w (.cells #[nI f0, nI f1, nI f2, nI f3, nI f4, sL a d.length cap, nI f6] 30);clear h;rw [mb];cases y : endsB f0 f1 f2
 ·rw [y] at f;go_enter Tryz.func87, Tryz.ntmps87;go_wp2_with fail
  generalize w.alloc (.cells #[nI f0, nI f1, nI f2, nI f3, nI f4, sL a d.length cap, nI f6] 30) = W0 at X B ⊢;refine (f.out _).mono ?_;rintro e r ⟨rfl, b⟩;replace X := row_keep b X;replace B := below_step B b;clear b f;obtain ⟨l, o, n, i, m, g, j⟩ := cells_7 X;go_wp2_with (first | (go_at_call 91; refine (between_any _ _ _ _).mono ?_; rintro e c ⟨rfl, rfl⟩) | (go_at_call 114; refine (lineNo_any _ _).mono ?_; rintro e c ⟨rfl, rfl⟩))
  go_ret
  exact ⟨rfl, B⟩
 ·rw [y] at f;cases h2 : betw f3 1 15
  ·clear q;go_enter Tryz.func87, Tryz.ntmps87;go_wp2_with fail
   generalize w.alloc (.cells #[nI f0, nI f1, nI f2, nI f3, nI f4, sL a d.length cap, nI f6] 30) = W0 at X B ⊢;refine (f.out _).mono ?_;rintro e r ⟨rfl, b⟩;replace X := row_keep b X;replace B := below_step B b;clear b f;obtain ⟨l, o, n, i, m, g, j⟩ := cells_7 X;go_wp2_with (first | (go_at_call 91; refine (between_any _ _ _ _).mono ?_; rintro e c ⟨rfl, rfl⟩) | (go_at_call 114; refine (lineNo_any _ _).mono ?_; rintro e c ⟨rfl, rfl⟩))
   go_ret
   exact ⟨rfl, B⟩
  ·cases h3 : betw f4 0 15
   ·clear q;go_enter Tryz.func87, Tryz.ntmps87;go_wp2_with fail
    generalize w.alloc (.cells #[nI f0, nI f1, nI f2, nI f3, nI f4, sL a d.length cap, nI f6] 30) = W0 at X B ⊢;refine (f.out _).mono ?_;rintro e r ⟨rfl, b⟩;replace X := row_keep b X;replace B := below_step B b;clear b f;obtain ⟨l, o, n, i, m, g, j⟩ := cells_7 X;go_wp2_with (first | (go_at_call 91; refine (between_any _ _ _ _).mono ?_; rintro e c ⟨rfl, rfl⟩) | (go_at_call 114; refine (lineNo_any _ _).mono ?_; rintro e c ⟨rfl, rfl⟩))
    go_ret
    exact ⟨rfl, B⟩
   ·by_cases p : d.length = 0
    ·have A : Hid (dataB d = true) := data_nil p;rw [A.out];have s : d = [] := List.eq_nil_of_length_eq_zero p;clear q;cases F : betw f6 0 15
     ·subst s;go_enter Tryz.func87, Tryz.ntmps87;go_wp2_with fail
      generalize w.alloc (.cells #[nI f0, nI f1, nI f2, nI f3, nI f4, sL a ([] : List Int).length cap, nI f6] 30) = W0 at X B ⊢;refine (f.out _).mono ?_;rintro e r ⟨rfl, b⟩;replace X := row_keep b X;replace B := below_step B b;clear b f;obtain ⟨l, o, n, i, m, g, j⟩ := cells_7 X;go_wp2_with (first | (go_at_call 91; refine (between_any _ _ _ _).mono ?_; rintro e c ⟨rfl, rfl⟩) | (go_at_call 114; refine (lineNo_any _ _).mono ?_; rintro e c ⟨rfl, rfl⟩))
      go_ret
      exact ⟨rfl, B⟩
     ·subst s;go_enter Tryz.func87, Tryz.ntmps87;go_wp2_with fail
      generalize w.alloc (.cells #[nI f0, nI f1, nI f2, nI f3, nI f4, sL a ([] : List Int).length cap, nI f6] 30) = W0 at X B ⊢;refine (f.out _).mono ?_;rintro e r ⟨rfl, b⟩;replace X := row_keep b X;replace B := below_step B b;clear b f;obtain ⟨l, o, n, i, m, g, j⟩ := cells_7 X;go_wp2_with (first | (go_at_call 91; refine (between_any _ _ _ _).mono ?_; rintro e c ⟨rfl, rfl⟩) | (go_at_call 114; refine (lineNo_any _ _).mono ?_; rintro e c ⟨rfl, rfl⟩))
      go_ret
      exact ⟨rfl, B⟩
    ·rw [data_line p];have E : ¬ (d = []) := fun e => p (by rw [e]; rfl);have D : ¬ ((d.length : Int) = 0) := by omega
     have C : ((d.length : Int) == 0) = false := beq_false_of_ne D;cases z : isL d
     ·rw [z] at q;go_enter Tryz.func87, Tryz.ntmps87;go_wp2_with fail
      generalize w.alloc (.cells #[nI f0, nI f1, nI f2, nI f3, nI f4, sL a d.length cap, nI f6] 30) = W0 at X B ⊢;refine (f.out _).mono ?_;rintro e r ⟨rfl, b⟩;replace X := row_keep b X;replace B := below_step B b;clear b f;obtain ⟨l, o, n, i, m, g, j⟩ := cells_7 X;go_wp2_with (first | (go_at_call 91; refine (between_any _ _ _ _).mono ?_; rintro e c ⟨rfl, rfl⟩) | (go_at_call 114; refine (lineNo_any _ _).mono ?_; rintro e c ⟨rfl, rfl⟩) | (go_at_call 115; refine (q.out _ B).mono ?_; rintro e v ⟨rfl, k⟩; replace X := row_keep k X; replace B := below_step B k; clear k l o n i m g j; obtain ⟨l, o, n, i, m, g, j⟩ := cells_7 X))
      go_ret
      exact ⟨rfl, B⟩
     ·rw [z] at q;cases F : betw f6 0 15
      ·skip
       go_enter Tryz.func87, Tryz.ntmps87;go_wp2_with fail
       generalize w.alloc (.cells #[nI f0, nI f1, nI f2, nI f3, nI f4, sL a d.length cap, nI f6] 30) = W0 at X B ⊢;refine (f.out _).mono ?_;rintro e r ⟨rfl, b⟩;replace X := row_keep b X;replace B := below_step B b;clear b f;obtain ⟨l, o, n, i, m, g, j⟩ := cells_7 X;go_wp2_with (first | (go_at_call 91; refine (between_any _ _ _ _).mono ?_; rintro e c ⟨rfl, rfl⟩) | (go_at_call 114; refine (lineNo_any _ _).mono ?_; rintro e c ⟨rfl, rfl⟩) | (go_at_call 115; refine (q.out _ B).mono ?_; rintro e v ⟨rfl, k⟩; replace X := row_keep k X; replace B := below_step B k; clear k l o n i m g j; obtain ⟨l, o, n, i, m, g, j⟩ := cells_7 X))
       go_ret
       exact ⟨rfl, B⟩
      ·skip
       go_enter Tryz.func87, Tryz.ntmps87;go_wp2_with fail
       generalize w.alloc (.cells #[nI f0, nI f1, nI f2, nI f3, nI f4, sL a d.length cap, nI f6] 30) = W0 at X B ⊢;refine (f.out _).mono ?_;rintro e r ⟨rfl, b⟩;replace X := row_keep b X;replace B := below_step B b;clear b f;obtain ⟨l, o, n, i, m, g, j⟩ := cells_7 X;go_wp2_with (first | (go_at_call 91; refine (between_any _ _ _ _).mono ?_; rintro e c ⟨rfl, rfl⟩) | (go_at_call 114; refine (lineNo_any _ _).mono ?_; rintro e c ⟨rfl, rfl⟩) | (go_at_call 115; refine (q.out _ B).mono ?_; rintro e v ⟨rfl, k⟩; replace X := row_keep k X; replace B := below_step B k; clear k l o n i m g j; obtain ⟨l, o, n, i, m, g, j⟩ := cells_7 X))
       go_ret
       exact ⟨rfl, B⟩
theorem specMsg_any (f0 f1 f2 f3 f4 f6 : Int) (d : List Int) (a : Option Addr) (cap : Nat) (w : World) (h : SlRd intR w a d) :
    Calls Tryz.prog 61 #[.agg #[nI f0, nI f1, nI f2, nI f3, nI f4, sL a d.length cap, nI f6]] w fun e c => e = .returned (.bool (msgB (f0, f1, f2, f3, f4, d, f6))) ∧ Bl w c := by
 have f : Hid (∀ W, Bl w W → Calls Tryz.prog 103 #[sL a d.length cap] W fun e c => e = .returned (.bool (isL d)) ∧ c = W) := fun W hb => specLineOk_any a d cap W (reads_of (slrd_next h hb));have B := box_below w (.cells #[nI f0, nI f1, nI f2, nI f3, nI f4, sL a d.length cap, nI f6] 30);clear h;cases n : betw f0 0 2
 ·clear f;have b : Hid (msgB (f0, f1, f2, f3, f4, d, f6) = false) := by unfold Hid; rw [mb]; unfold endsB; simp [n]
  go_enter Tryz.func61, Tryz.ntmps61;go_wp2_with (first | (go_at_call 58; refine (l1In_any _ _ _ _).mono ?_; rintro e c ⟨rfl, rfl⟩))
  go_ret
  exact ⟨ret_bool b.out.symm, B⟩
 ·cases p : betw f1 0 5
  ·clear f;have b : Hid (msgB (f0, f1, f2, f3, f4, d, f6) = false) := by unfold Hid; rw [mb]; unfold endsB; simp [p]
   go_enter Tryz.func61, Tryz.ntmps61;go_wp2_with (first | (go_at_call 58; refine (l1In_any _ _ _ _).mono ?_; rintro e c ⟨rfl, rfl⟩))
   go_ret
   exact ⟨ret_bool b.out.symm, B⟩
  ·cases o : betw f2 0 5
   ·clear f;have b : Hid (msgB (f0, f1, f2, f3, f4, d, f6) = false) := by unfold Hid; rw [mb]; unfold endsB; simp [o]
    go_enter Tryz.func61, Tryz.ntmps61;go_wp2_with (first | (go_at_call 58; refine (l1In_any _ _ _ _).mono ?_; rintro e c ⟨rfl, rfl⟩))
    go_ret
    exact ⟨ret_bool b.out.symm, B⟩
   ·cases q : betw f4 0 15
    ·clear f;have b : Hid (msgB (f0, f1, f2, f3, f4, d, f6) = false) := by unfold Hid; rw [mb]; unfold endsB; simp [q]
     go_enter Tryz.func61, Tryz.ntmps61;go_wp2_with (first | (go_at_call 58; refine (l1In_any _ _ _ _).mono ?_; rintro e c ⟨rfl, rfl⟩))
     go_ret
     exact ⟨ret_bool b.out.symm, B⟩
    ·by_cases g : d.length = 0
     ·have l : Hid (dataB d = true) := data_nil g;have m : d = [] := List.eq_nil_of_length_eq_zero g;clear f;subst m;cases j : betw f3 1 15
      ·skip
       have b : Hid (msgB (f0, f1, f2, f3, f4, [], f6) = false) := by unfold Hid; rw [mb]; unfold endsB; simp [j]
       go_enter Tryz.func61, Tryz.ntmps61;go_wp2_with (first | (go_at_call 58; refine (l1In_any _ _ _ _).mono ?_; rintro e c ⟨rfl, rfl⟩))
       go_ret
       exact ⟨ret_bool b.out.symm, B⟩
      ·cases i : betw f6 0 15
       ·skip
        have b : Hid (msgB (f0, f1, f2, f3, f4, [], f6) = false) := by unfold Hid; rw [mb]; unfold endsB; simp [i]
        go_enter Tryz.func61, Tryz.ntmps61;go_wp2_with (first | (go_at_call 58; refine (l1In_any _ _ _ _).mono ?_; rintro e c ⟨rfl, rfl⟩))
        go_ret
        exact ⟨ret_bool b.out.symm, B⟩
       ·skip
        have b : Hid (msgB (f0, f1, f2, f3, f4, [], f6) = true) := by unfold Hid; rw [mb]; unfold endsB; simp [n, p, o, q, j, i, l.out]
        go_enter Tryz.func61, Tryz.ntmps61;go_wp2_with (first | (go_at_call 58; refine (l1In_any _ _ _ _).mono ?_; rintro e c ⟨rfl, rfl⟩))
        go_ret
        exact ⟨ret_bool b.out.symm, B⟩
     ·have l : Hid (dataB d = isL d) := data_line g;have v : ¬ (d = []) := fun e => g (by rw [e]; rfl);have s : ¬ ((d.length : Int) = 0) := by omega
      have r : ((d.length : Int) == 0) = false := beq_false_of_ne s;cases k : isL d
      ·rw [k] at f;have b : Hid (msgB (f0, f1, f2, f3, f4, d, f6) = false) := by unfold Hid; rw [mb]; unfold endsB; simp [l.out, k]
       go_enter Tryz.func61, Tryz.ntmps61;go_wp2_with (first | (go_at_call 58; refine (l1In_any _ _ _ _).mono ?_; rintro e c ⟨rfl, rfl⟩) | (go_at_call 103; refine (f.out _ B).mono ?_; rintro e c ⟨rfl, rfl⟩))
       go_ret
       exact ⟨ret_bool b.out.symm, B⟩
      ·rw [k] at f;cases j : betw f3 1 15
       ·skip
        have b : Hid (msgB (f0, f1, f2, f3, f4, d, f6) = false) := by unfold Hid; rw [mb]; unfold endsB; simp [j]
        go_enter Tryz.func61, Tryz.ntmps61;go_wp2_with (first | (go_at_call 58; refine (l1In_any _ _ _ _).mono ?_; rintro e c ⟨rfl, rfl⟩) | (go_at_call 103; refine (f.out _ B).mono ?_; rintro e c ⟨rfl, rfl⟩))
        go_ret
        exact ⟨ret_bool b.out.symm, B⟩
       ·cases i : betw f6 0 15
        ·skip
         have b : Hid (msgB (f0, f1, f2, f3, f4, d, f6) = false) := by unfold Hid; rw [mb]; unfold endsB; simp [i]
         go_enter Tryz.func61, Tryz.ntmps61;go_wp2_with (first | (go_at_call 58; refine (l1In_any _ _ _ _).mono ?_; rintro e c ⟨rfl, rfl⟩) | (go_at_call 103; refine (f.out _ B).mono ?_; rintro e c ⟨rfl, rfl⟩))
         go_ret
         exact ⟨ret_bool b.out.symm, B⟩
        ·skip
         have b : Hid (msgB (f0, f1, f2, f3, f4, d, f6) = true) := by unfold Hid; rw [mb]; unfold endsB; simp [n, p, o, q, j, i, l.out, k]
         go_enter Tryz.func61, Tryz.ntmps61;go_wp2_with (first | (go_at_call 58; refine (l1In_any _ _ _ _).mono ?_; rintro e c ⟨rfl, rfl⟩) | (go_at_call 103; refine (f.out _ B).mono ?_; rintro e c ⟨rfl, rfl⟩))
         go_ret
         exact ⟨ret_bool b.out.symm, B⟩
open Go.ChangeShapes Go.WideShapes Go.RowKit
open Go.Maps (Keyed)
theorem drewN_below {B : Nat} {a w : World} (h : Below B a w) (q : Nat) : Below B a (w.drewN q) := ⟨h.os, h.tape, h.output, h.size, h.block⟩
abbrev Crowd (w : World) (b n : Nat) (f : Value → Option Int) : Prop := MapV Tryz.prog 160 2 w b n f
theorem Crowd.at {w : World} {b n : Nat} {f : Value → Option Int} (h : Crowd w b n f) (x y z : Bool) {c : Int} (e : (f (hk x y z)).getD 0 = c) :
    (Instr.lookup 163 (.map (some b)) (hk x y z) false).run Tryz.prog w = .ok (nI c) w := by
 obtain ⟨l, a⟩ := hk_key x y z;have := MapV.look h holdKeyed Tryz.underlying163 Tryz.underlying2 (zero2 _) a;rwa [e] at this
theorem alone_any {b n : Nat} {f : Value → Option Int} (w : World) (h : HoldT w) (hm : Crowd w b n f) (u2 u3 : Int) (e2 : (f (hk true true false)).getD 0 = u2) (e3 : (f (hk true true true)).getD 0 = u3) (lo : -9223372036854775808 ≤ u2 + u3) (hi : u2 + u3 ≤ 9223372036854775807) :
    Calls Tryz.prog 182 #[.map (some b)] w fun x w' => x = .returned (nI (u2 + u3)) ∧ w' = w.drewN 1 := by
 obtain ⟨c0, c1, c2, c3, c4, c5, c6, c7, c8, c9, a, c⟩ := h.cells;have l2 : (Instr.lookup 163 (.map (some b)) (hk true true false) false).run Tryz.prog w.drew = .ok (nI u2) w.drew := Crowd.at (hm.drewN 1) true true false e2;have l3 : (Instr.lookup 163 (.map (some b)) (hk true true true) false).run Tryz.prog w.drew = .ok (nI u3) w.drew := Crowd.at (hm.drewN 1) true true true e3;go_enter Tryz.func182, Tryz.ntmps182;go_wp2_with fail
 go_region
 all_goals
  go_wp2;go_ret
  exact ⟨rfl, rfl⟩
theorem here_any {b n : Nat} {f : Value → Option Int} (w : World) (h : HoldT w) (hm : Crowd w b n f) (u1 u2 u3 : Int) (e1 : (f (hk true false false)).getD 0 = u1) (e2 : (f (hk true true false)).getD 0 = u2) (e3 : (f (hk true true true)).getD 0 = u3)
    (lo : -9223372036854775808 ≤ u2 + u3) (hi : u2 + u3 ≤ 9223372036854775807) (lo1 : -9223372036854775808 ≤ u1 + (u2 + u3)) (hi1 : u1 + (u2 + u3) ≤ 9223372036854775807) :
    Calls Tryz.prog 179 #[.map (some b)] w fun x w' => x = .returned (nI (u1 + (u2 + u3))) ∧ ∃ q, w' = w.drewN q := by
 obtain ⟨c0, c1, c2, c3, c4, c5, c6, c7, c8, c9, c, d⟩ := h.cells;have l1 : ∀ q, (Instr.lookup 163 (.map (some b)) (hk true false false) false).run Tryz.prog (w.drewN q) = .ok (nI u1) (w.drewN q) := fun q => Crowd.at (hm.drewN q) true false false e1;have C : ∀ q, Calls Tryz.prog 182 #[.map (some b)] (w.drewN q) fun x w' => x = .returned (nI (u2 + u3)) ∧ ∃ p, w' = (w.drewN q).drewN p := fun q =>
  (alone_any (w.drewN q) (h.drewN q) (hm.drewN q) u2 u3 e2 e3 lo hi).mono fun x w' ⟨h1, h2⟩ => ⟨h1, 1, h2⟩
 generalize a : u2 + u3 = v at *;clear a;go_enter Tryz.func179, Tryz.ntmps179;go_wp2_with fail
 go_quiet (first | (go_at_call 182; exact Calls.quiet_of (C _)))
 go_wp2;go_ret
 exact ⟨rfl, _, rfl⟩
def grantI (wr : Bool) (o : Int) : Int := if o < 0 then -1 else if wr then 3 else if o = 0 then 2 else 1
theorem hold_eq (a b c d e f : Bool) (w : World) : (Op.equalIn 10000 160 (hk a b c) (hk d e f)).run Tryz.prog w = .ok (a == d && b == e && c == f) w := by
 cases a <;> cases b <;> cases c <;> cases d <;> cases e <;> cases f <;> kernel_rfl
theorem hold_ix0 (w : World) : (Instr.index 161 (.agg #[.bool false, .bool false, .bool false, .bool true, .bool false, .bool false, .bool true, .bool true, .bool false, .bool true, .bool true, .bool true]) (nI 0)).run Tryz.prog w = .ok (hk false false false) w := by kernel_rfl
theorem hold_ix1 (w : World) : (Instr.index 161 (.agg #[.bool false, .bool false, .bool false, .bool true, .bool false, .bool false, .bool true, .bool true, .bool false, .bool true, .bool true, .bool true]) (nI 1)).run Tryz.prog w = .ok (hk true false false) w := by kernel_rfl
theorem hold_ix2 (w : World) : (Instr.index 161 (.agg #[.bool false, .bool false, .bool false, .bool true, .bool false, .bool false, .bool true, .bool true, .bool false, .bool true, .bool true, .bool true]) (nI 2)).run Tryz.prog w = .ok (hk true true false) w := by kernel_rfl
theorem hold_ix3 (w : World) : (Instr.index 161 (.agg #[.bool false, .bool false, .bool false, .bool true, .bool false, .bool false, .bool true, .bool true, .bool false, .bool true, .bool true, .bool true]) (nI 3)).run Tryz.prog w = .ok (hk true true true) w := by kernel_rfl
theorem stateOf1 (w : World) (h : HoldT w) :
    Calls Tryz.prog 178 #[hk true false false] w fun x w' => x = .returned (nI 1) ∧ Bl w w' := by
 obtain ⟨c0, c1, c2, c3, c4, c5, c6, c7, c8, c9, a, b⟩ := h.cells;have hl := h.lt;have E := hold_eq;have i0 := hold_ix0;have i1 := hold_ix1;have i2 := hold_ix2;have i3 := hold_ix3;go_enter Tryz.func178, Tryz.ntmps178;go_wp2_with fail
 refine wp_loop_rounds 2 ?_;rw [rounds_succ];go_wp2;rw [rounds_succ];go_wp2;go_ret
 refine ⟨rfl, ?_⟩;repeat first
  | exact Below.refl _ _
  | refine Below.setCell ?_ (by simp <;> omega) _
  | refine Below.alloc ?_ (by simp <;> omega) _
  | refine Below.drew ?_
theorem stateOf2 (w : World) (h : HoldT w) :
    Calls Tryz.prog 178 #[hk true true false] w fun x w' => x = .returned (nI 2) ∧ Bl w w' := by
 obtain ⟨c0, c1, c2, c3, c4, c5, c6, c7, c8, c9, a, b⟩ := h.cells;have hl := h.lt;have E := hold_eq;have i0 := hold_ix0;have i1 := hold_ix1;have i2 := hold_ix2;have i3 := hold_ix3;go_enter Tryz.func178, Tryz.ntmps178;go_wp2_with fail
 refine wp_loop_rounds 3 ?_;rw [rounds_succ];go_wp2;rw [rounds_succ];go_wp2;rw [rounds_succ];go_wp2;go_ret
 refine ⟨rfl, ?_⟩;repeat first
  | exact Below.refl _ _
  | refine Below.setCell ?_ (by simp <;> omega) _
  | refine Below.alloc ?_ (by simp <;> omega) _
  | refine Below.drew ?_
theorem stateOf3 (w : World) (h : HoldT w) :
    Calls Tryz.prog 178 #[hk true true true] w fun x w' => x = .returned (nI 3) ∧ Bl w w' := by
 obtain ⟨c0, c1, c2, c3, c4, c5, c6, c7, c8, c9, a, b⟩ := h.cells;have hl := h.lt;have E := hold_eq;have i0 := hold_ix0;have i1 := hold_ix1;have i2 := hold_ix2;have i3 := hold_ix3;go_enter Tryz.func178, Tryz.ntmps178;go_wp2_with fail
 refine wp_loop_rounds 4 ?_;rw [rounds_succ];go_wp2;rw [rounds_succ];go_wp2;rw [rounds_succ];go_wp2;rw [rounds_succ];go_wp2;go_ret
 refine ⟨rfl, ?_⟩;repeat first
  | exact Below.refl _ _
  | refine Below.setCell ?_ (by simp <;> omega) _
  | refine Below.alloc ?_ (by simp <;> omega) _
  | refine Below.drew ?_
theorem implGranted_any (wr : Bool) (o : Int) (w : World) (h : HoldT w) (ho : (Lit.int .i64 o).wf = true) :
    Calls Tryz.prog 175 #[.bool wr, nI o] w fun x w' => x = .returned (nI (grantI wr o)) ∧ Bl w w' := by
 by_cases i : o < 0
 ·go_enter Tryz.func175, Tryz.ntmps175;go_wp2;go_ret
  exact ⟨by simp [grantI, i], Below.refl _ _⟩
 have A := @run_makeMap Tryz.prog;have s : 0 ≤ o := by omega
 have D : o ≤ 9223372036854775807 := by simp [Lit.wf] at ho; omega
 obtain ⟨l, C⟩ := hk_key true false false;obtain ⟨d, r1, g, G⟩ := MapV.put (mapV_made w Tryz.prog 160 2) holdKeyed Tryz.underlying163 Tryz.underlying2 (by decide) C ho;have n : Bl w (w.alloc (.map #[] 0)) := (Below.refl _ _).alloc (Nat.le_refl _) _;have a : Bl w d := n.grown G n.size (fun j hj => by cases hj; exact Nat.le_refl _);have y := h.lt;have p : putV (fun _ => none) (hk true false false) o (hk true true false) = none := putV_other _ _ (by simp);have m : putV (fun _ => none) (hk true false false) o (hk true true true) = none := putV_other _ _ (by simp);have k : putV (fun _ => none) (hk true false false) o (hk true false false) = some o := putV_same _ _ _;obtain ⟨c0, c1, c2, c3, c4, c5, c6, c7, c8, c9, z, B⟩ := h.cells;cases wr
 ·by_cases f : o = 0
  ·subst f;go_enter Tryz.func175, Tryz.ntmps175;go_wp2_with fail
   refine (here_any d (h.goes a) g 0 0 0 (by rw [k]; rfl) (by rw [p]; rfl) (by rw [m]; rfl) (by decide) (by decide) (by decide) (by decide)).mono ?_;rintro _ _ ⟨rfl, q, rfl⟩;go_wp2_with fail
   refine (stateOf2 _ ((h.goes a).drewN q)).mono ?_;rintro _ c ⟨rfl, b⟩;go_wp2;go_ret
   exact ⟨rfl, (drewN_below a q).trans (b.mono (drewN_below a q).size)⟩
  ·have r : (o == 0) = false := by simpa using f
   go_enter Tryz.func175, Tryz.ntmps175;go_wp2_with fail
   refine (here_any d (h.goes a) g o 0 0 (by rw [k]; rfl) (by rw [p]; rfl) (by rw [m]; rfl) (by decide) (by decide) (by omega) (by omega)).mono ?_;rintro _ _ ⟨rfl, q, rfl⟩;rw [show o + (0 + 0) = o by omega];go_wp2_with fail
   refine (stateOf1 _ ((h.goes a).drewN q)).mono ?_;rintro _ c ⟨rfl, b⟩;go_wp2;go_ret
   exact ⟨by simp [grantI, i, f], (drewN_below a q).trans (b.mono (drewN_below a q).size)⟩
 ·obtain ⟨c, r2, E, F⟩ := MapV.wiped g Tryz.underlying163 0;have b : Bl w c := a.grown F a.size (fun j hj => by cases hj; exact Nat.le_refl _);go_enter Tryz.func175, Tryz.ntmps175;go_wp2_with fail
  refine (here_any c (h.goes b) E 0 0 0 rfl rfl rfl (by decide) (by decide) (by decide) (by decide)).mono ?_;rintro _ _ ⟨rfl, q, rfl⟩;go_wp2_with fail
  refine (stateOf3 _ ((h.goes b).drewN q)).mono ?_;rintro _ w3 ⟨rfl, v⟩;go_wp2;go_ret
  exact ⟨by simp [grantI, i], (drewN_below b q).trans (v.mono (drewN_below b q).size)⟩
theorem specGranted_any (wr : Bool) (o : Int) (w : World) :
    Calls Tryz.prog 151 #[.bool wr, nI o] w fun x w' => x = .returned (nI (grantI wr o)) ∧ w' = w := by
 by_cases a : o < 0
 ·go_enter Tryz.func151, Tryz.ntmps151;go_wp2;go_ret
  exact ⟨by simp [grantI, a], rfl⟩
 ·have c : 0 ≤ o := by omega
  cases wr
  ·by_cases b : o = 0
   ·subst b;go_enter Tryz.func151, Tryz.ntmps151;go_wp2;go_ret
    exact ⟨rfl, rfl⟩
   ·go_enter Tryz.func151, Tryz.ntmps151;go_wp2;go_ret
    exact ⟨by simp [grantI, a, b], rfl⟩
  ·go_enter Tryz.func151, Tryz.ntmps151;go_wp2;go_ret
   exact ⟨by simp [grantI, a], rfl⟩
abbrev AccD := List Int × EntryD
def letA (k road tq kind : Int) (d : List Int) (g : Int) : MsgD := (road, 4, tq, kind, k, d, g)
def freeE (e : EntryD) : EntryD := (e.1, e.2.1, false, 0, 0, 0, 0, [])
def heldE (e : EntryD) (o s : Int) : EntryD := (o, s, e.2.2.1, e.2.2.2.1, e.2.2.2.2.1, e.2.2.2.2.2.1, e.2.2.2.2.2.2.1, e.2.2.2.2.2.2.2)
def leftE (e : EntryD) (l : Int) : EntryD := (e.1, e.2.1, e.2.2.1, e.2.2.2.1, e.2.2.2.2.1, l, e.2.2.2.2.2.2.1, e.2.2.2.2.2.2.2)
def restN (e : EntryD) : Int := (hoI (fgO e.1 e.2.2.2.2.1) (fgS e.2.1 e.2.2.2.2.1)).length
def readA (k : Int) (a : AccD) : AccD × List MsgD :=
 if restN a.2 = 0 then ((a.1, heldE a.2 a.2.2.2.2.2.1 0), [letA k 2 a.2.2.2.2.2.1 11 a.1 2])
 else ((a.1, heldE a.2 (fgO a.2.1 a.2.2.2.2.2.1) (orI (fgS a.2.2.1 a.2.2.2.2.2.1) a.2.2.2.2.2.1)), [letA k 2 a.2.2.2.2.2.1 11 a.1 1])
def endA (k : Int) (a : AccD) : AccD × List MsgD :=
 if a.2.2.2.2.1 = 1 then readA k a
 else if a.2.2.2.2.1 = 2 then ((a.1, heldE a.2 a.2.2.2.2.2.1 0), [letA k 2 a.2.2.2.2.2.1 11 a.1 3])
 else if a.2.2.2.2.1 = 3 then ((a.1, freeE a.2), [letA k 2 5 13 a.1 0])
 else ((maskL a.1 a.2.2.2.2.2.2.2.2 a.2.2.2.2.2.2.2.1, freeE a.2), [letA k 2 5 13 [] 0])
def askA (o s kind f : Int) : List Int := if kind = 1 ∨ kind = 3 then (if 0 ≤ fgO o f then [fgO o f] else []) else hoI (fgO o f) (fgS s f)
def busyE (e : EntryD) (kind : Int) (m : MsgD) (l : Int) : EntryD := (e.1, e.2.1, true, kind, m.2.1, l, if kind = 4 then m.2.2.2.2.2.2 else e.2.2.2.2.2.2.1, if kind = 4 then m.2.2.2.2.2.1 else e.2.2.2.2.2.2.2)
def ordersA (k kind : Int) (l : List Int) : List MsgD := l.map fun j => letA k 1 j (if kind = 1 ∨ kind = 3 then 6 else 7) [] 0
def mayB (kind : Int) (m : MsgD) : Bool := askB kind m.2.1 && (!decide (kind = 4) || (betw m.2.2.2.2.2.2 0 3 && isL m.2.2.2.2.2.1))
def reqA (kind k : Int) (a : AccD) (m : MsgD) : AccD × List MsgD :=
 if askA a.2.1 a.2.2.1 kind m.2.1 = [] then endA k (a.1, busyE a.2 kind m (askA a.2.1 a.2.2.1 kind m.2.1).length)
 else ((a.1, busyE a.2 kind m (askA a.2.1 a.2.2.1 kind m.2.1).length), ordersA k kind (askA a.2.1 a.2.2.1 kind m.2.1))
def toldW (ws d : List Int) : List Int := if d.length = 0 then ws else d
def letgoB (e : EntryD) (g : Int) : Bool := decide (g = 1) || (decide (e.2.2.2.1 = 2) || decide (e.2.2.2.1 = 4))
def ansE (e : EntryD) (c g : Int) : EntryD := if letgoB e g then heldE (leftE e (e.2.2.2.2.2.1 - 1)) (fgO e.1 c) (fgS e.2.1 c) else heldE (leftE e (e.2.2.2.2.2.1 - 1)) (fgO e.1 c) (orI (fgS e.2.1 c) c)
def ansB (e : EntryD) (c : Int) : Bool := e.2.2.1 && (decide (0 < e.2.2.2.2.2.1) && holB e.1 e.2.1 c)
def ansA (k : Int) (a : AccD) (m : MsgD) : AccD × List MsgD :=
 if 0 < a.2.2.2.2.2.2.1 - 1 then ((toldW a.1 m.2.2.2.2.2.1, ansE a.2 m.2.1 m.2.2.2.2.2.2), [])
 else endA k (toldW a.1 m.2.2.2.2.2.1, ansE a.2 m.2.1 m.2.2.2.2.2.2)
def putBackA (k : Int) (a : AccD) (m : MsgD) : AccD × List MsgD :=
 ((if ownB a.2.1 m.2.1 then toldW a.1 m.2.2.2.2.2.1 else a.1, heldE a.2 (fgO a.2.1 m.2.1) (fgS a.2.2.1 m.2.1)), [letA k 2 m.2.1 12 [] 0])
def doneB19 (e : EntryD) (c : Int) : Bool := e.2.2.1 && (decide (e.2.2.2.2.2.1 = 0) && decide (e.2.2.2.2.1 = c))
def kindA (n : Int) : Int := if n = 1 then 1 else if n = 2 then 2 else if n = 4 then 3 else if n = 5 then 4 else 0
def stopA (a : AccD) (m : MsgD) : Option Int :=
 if 0 < kindA m.2.2.2.1 then (if mayB (kindA m.2.2.2.1) m then (if a.2.2.2.1 then some 2 else none) else some 0)
 else if m.2.2.2.1 = 3 then (if betw m.2.1 0 3 then (if a.2.2.2.1 then some 2 else none) else some 0)
 else if m.2.2.2.1 = 8 ∨ m.2.2.2.1 = 9 then (if ansB a.2 m.2.1 then none else some 0)
 else if m.2.2.2.1 = 10 then (if doneB19 a.2 m.2.1 then none else some 0)
 else some 0
def hearA (k : Int) (a : AccD) (m : MsgD) : AccD × List MsgD :=
 if 0 < kindA m.2.2.2.1 then reqA (kindA m.2.2.2.1) k a m
 else if m.2.2.2.1 = 3 then putBackA k a m
 else if m.2.2.2.1 = 8 ∨ m.2.2.2.1 = 9 then ansA k a m
 else ((a.1, freeE a.2), [])
noncomputable def lineB (h : HouseD) (m : MsgD) : Bool := msgB m && betw m.2.2.2.2.1 0 ((h.2.length : Int) - 1)
def accAt (h : HouseD) (k : Int) : AccD := (h.1.getD k.toNat [], h.2.getD k.toNat zeroE)
def withA (h : HouseD) (k : Int) (a : AccD) : HouseD := (h.1.set k.toNat a.1, h.2.set k.toNat a.2)
noncomputable def heardI (h : HouseD) (m : MsgD) : HouseD × List MsgD × Int :=
 if houseB h then
  (if lineB h m then (match stopA (accAt h m.2.2.2.2.1) m with
   | some c => (h, [], c)
   | none => (withA h m.2.2.2.2.1 (hearA m.2.2.2.2.1 (accAt h m.2.2.2.2.1) m).1, (hearA m.2.2.2.2.1 (accAt h m.2.2.2.2.1) m).2, 1))
  else (h, [], 0))
 else (([], []), [], -1)
end Go.Proofs.YtmaopldahnejdaaGreatDoor
