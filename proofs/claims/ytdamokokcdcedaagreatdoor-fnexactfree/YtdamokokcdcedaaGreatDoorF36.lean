import Derived.Test.YtdamokokcdcedaaGreatDoorF00Box
import Derived.Test.YtdamokokcdcedaaGreatDoorF14
namespace Go.Proofs.YtdamokokcdcedaaGreatDoor
set_option maxHeartbeats 4000000
open Go.ChangeShapes Go.WideShapes Go.ChangeAt Go.RowKit
set_option linter.unusedVariables false
def endsB (r f t : Int) : Bool := betw r 0 2 && (betw f 0 5 && betw t 0 5)
def dataB (d : List Int) : Bool := d.isEmpty || isL d
def msgB (u : MsgD) : Bool := endsB u.1 u.2.1 u.2.2.1 && (betw u.2.2.2.1 1 15 && (betw u.2.2.2.2.1 0 15 && (dataB u.2.2.2.2.2.1 && betw u.2.2.2.2.2.2 0 15)))
theorem data_nil {d : List Int} (h : d.length = 0) : dataB d = true := by
 have : d = [] := List.eq_nil_of_length_eq_zero h;subst this;rfl
theorem data_line {d : List Int} (h : ¬ d.length = 0) : dataB d = isL d := by
 cases d with
 | nil => exact (h rfl).elim
 | cons x r => rfl
theorem mb {r f t k l g : Int} {d : List Int} : msgB (r, f, t, k, l, d, g) = (endsB r f t && (betw k 1 15 && (betw l 0 15 && (dataB d && betw g 0 15)))) := rfl
theorem lineNo_any (k : Int) (w : World) : Calls Tryz.prog 245 #[nI k] w fun e a => e = .returned (.bool (betw k 0 15)) ∧ a = w := by
 go_enter Tryz.func245, Tryz.ntmps245;go_wp2_with (go_at_call 156; refine (between_any _ _ _ _).mono ?_; rintro e a ⟨rfl, rfl⟩)
 go_ret
 exact ⟨rfl, rfl⟩
theorem implEnds_any (f0 f1 f2 f3 f4 f6 : Int) (d : List Int) (a : Option Addr) (cap : Nat) (w : World) :
    Calls Tryz.prog 244 #[.agg #[nI f0, nI f1, nI f2, nI f3, nI f4, sL a d.length cap, nI f6]] w fun e b => e = .returned (.bool (endsB f0 f1 f2)) ∧ Bl w b := by
 have c : Hid _ := box_below w;unfold endsB;cases h1 : betw f0 0 2
 ·go_enter Tryz.func244, Tryz.ntmps244;go_wp2_with (go_at_call 156; refine (between_any _ _ _ _).mono ?_; rintro e b ⟨rfl, rfl⟩)
  go_ret
  exact ⟨rfl, c.out _⟩
 ·cases h2 : betw f1 0 5
  ·go_enter Tryz.func244, Tryz.ntmps244;go_wp2_with (go_at_call 156; refine (between_any _ _ _ _).mono ?_; rintro e b ⟨rfl, rfl⟩)
   go_ret
   exact ⟨rfl, c.out _⟩
  ·go_enter Tryz.func244, Tryz.ntmps244;go_wp2_with (go_at_call 156; refine (between_any _ _ _ _).mono ?_; rintro e b ⟨rfl, rfl⟩)
   go_ret
   exact ⟨rfl, c.out _⟩
theorem implMsgOk_any (f0 f1 f2 f3 f4 f6 : Int) (d : List Int) (a : Option Addr) (cap : Nat) (w : World) (h : SlRd intR w a d) :
    Calls Tryz.prog 210 #[.agg #[nI f0, nI f1, nI f2, nI f3, nI f4, sL a d.length cap, nI f6]] w fun e c => e = .returned (.bool (msgB (f0, f1, f2, f3, f4, d, f6))) ∧ Bl w c := by
 have f : Hid (∀ W, Calls Tryz.prog 244 #[.agg #[nI f0, nI f1, nI f2, nI f3, nI f4, sL a d.length cap, nI f6]] W fun e c => e = .returned (.bool (endsB f0 f1 f2)) ∧ Bl W c) := fun W => implEnds_any f0 f1 f2 f3 f4 f6 d a cap W;have q : Hid _ := fun (W : World) (k : Bl w W) => implLineOk_any a d cap W (reads_of (slrd_next h k));have X := heap_at w (.cells #[nI f0, nI f1, nI f2, nI f3, nI f4, sL a d.length cap, nI f6] 131);have B := box_below w (.cells #[nI f0, nI f1, nI f2, nI f3, nI f4, sL a d.length cap, nI f6] 131);clear h;rw [mb];cases z : endsB f0 f1 f2
 ·rw [z] at f;go_enter Tryz.func210, Tryz.ntmps210;go_wp2_with fail
  generalize w.alloc (.cells #[nI f0, nI f1, nI f2, nI f3, nI f4, sL a d.length cap, nI f6] 131) = W0 at X B ⊢;refine (f.out _).mono ?_;rintro e r ⟨rfl, b⟩;replace X := row_keep b X;replace B := below_step B b;clear b f;obtain ⟨j, m, i, l, g, n, o⟩ := cells_7 X;go_wp2_with (first | (go_at_call 156; refine (between_any _ _ _ _).mono ?_; rintro e c ⟨rfl, rfl⟩) | (go_at_call 245; refine (lineNo_any _ _).mono ?_; rintro e c ⟨rfl, rfl⟩))
  go_ret
  exact ⟨rfl, B⟩
 ·rw [z] at f;cases h2 : betw f3 1 15
  ·clear q;go_enter Tryz.func210, Tryz.ntmps210;go_wp2_with fail
   generalize w.alloc (.cells #[nI f0, nI f1, nI f2, nI f3, nI f4, sL a d.length cap, nI f6] 131) = W0 at X B ⊢;refine (f.out _).mono ?_;rintro e r ⟨rfl, b⟩;replace X := row_keep b X;replace B := below_step B b;clear b f;obtain ⟨j, m, i, l, g, n, o⟩ := cells_7 X;go_wp2_with (first | (go_at_call 156; refine (between_any _ _ _ _).mono ?_; rintro e c ⟨rfl, rfl⟩) | (go_at_call 245; refine (lineNo_any _ _).mono ?_; rintro e c ⟨rfl, rfl⟩))
   go_ret
   exact ⟨rfl, B⟩
  ·cases h3 : betw f4 0 15
   ·clear q;go_enter Tryz.func210, Tryz.ntmps210;go_wp2_with fail
    generalize w.alloc (.cells #[nI f0, nI f1, nI f2, nI f3, nI f4, sL a d.length cap, nI f6] 131) = W0 at X B ⊢;refine (f.out _).mono ?_;rintro e r ⟨rfl, b⟩;replace X := row_keep b X;replace B := below_step B b;clear b f;obtain ⟨j, m, i, l, g, n, o⟩ := cells_7 X;go_wp2_with (first | (go_at_call 156; refine (between_any _ _ _ _).mono ?_; rintro e c ⟨rfl, rfl⟩) | (go_at_call 245; refine (lineNo_any _ _).mono ?_; rintro e c ⟨rfl, rfl⟩))
    go_ret
    exact ⟨rfl, B⟩
   ·by_cases p : d.length = 0
    ·have A : Hid (dataB d = true) := data_nil p;rw [A.out];have s : d = [] := List.eq_nil_of_length_eq_zero p;clear q;cases E : betw f6 0 15
     ·subst s;go_enter Tryz.func210, Tryz.ntmps210;go_wp2_with fail
      generalize w.alloc (.cells #[nI f0, nI f1, nI f2, nI f3, nI f4, sL a ([] : List Int).length cap, nI f6] 131) = W0 at X B ⊢;refine (f.out _).mono ?_;rintro e r ⟨rfl, b⟩;replace X := row_keep b X;replace B := below_step B b;clear b f;obtain ⟨j, m, i, l, g, n, o⟩ := cells_7 X;go_wp2_with (first | (go_at_call 156; refine (between_any _ _ _ _).mono ?_; rintro e c ⟨rfl, rfl⟩) | (go_at_call 245; refine (lineNo_any _ _).mono ?_; rintro e c ⟨rfl, rfl⟩))
      go_ret
      exact ⟨rfl, B⟩
     ·subst s;go_enter Tryz.func210, Tryz.ntmps210;go_wp2_with fail
      generalize w.alloc (.cells #[nI f0, nI f1, nI f2, nI f3, nI f4, sL a ([] : List Int).length cap, nI f6] 131) = W0 at X B ⊢;refine (f.out _).mono ?_;rintro e r ⟨rfl, b⟩;replace X := row_keep b X;replace B := below_step B b;clear b f;obtain ⟨j, m, i, l, g, n, o⟩ := cells_7 X;go_wp2_with (first | (go_at_call 156; refine (between_any _ _ _ _).mono ?_; rintro e c ⟨rfl, rfl⟩) | (go_at_call 245; refine (lineNo_any _ _).mono ?_; rintro e c ⟨rfl, rfl⟩))
      go_ret
      exact ⟨rfl, B⟩
    ·rw [data_line p];have F : ¬ (d = []) := fun e => p (by rw [e]; rfl);have C : ¬ ((d.length : Int) = 0) := by omega
     have D : ((d.length : Int) == 0) = false := beq_false_of_ne C;cases v : isL d
     ·rw [v] at q;go_enter Tryz.func210, Tryz.ntmps210;go_wp2_with fail
      generalize w.alloc (.cells #[nI f0, nI f1, nI f2, nI f3, nI f4, sL a d.length cap, nI f6] 131) = W0 at X B ⊢;refine (f.out _).mono ?_;rintro e r ⟨rfl, b⟩;replace X := row_keep b X;replace B := below_step B b;clear b f;obtain ⟨j, m, i, l, g, n, o⟩ := cells_7 X;go_wp2_with (first | (go_at_call 156; refine (between_any _ _ _ _).mono ?_; rintro e c ⟨rfl, rfl⟩) | (go_at_call 245; refine (lineNo_any _ _).mono ?_; rintro e c ⟨rfl, rfl⟩) | (go_at_call 91; refine (q.out _ B).mono ?_; rintro e y ⟨rfl, k⟩; replace X := row_keep k X; replace B := below_step B k; clear k j m i l g n o; obtain ⟨j, m, i, l, g, n, o⟩ := cells_7 X))
      go_ret
      exact ⟨rfl, B⟩
     ·rw [v] at q;cases E : betw f6 0 15
      ·skip
       go_enter Tryz.func210, Tryz.ntmps210;go_wp2_with fail
       generalize w.alloc (.cells #[nI f0, nI f1, nI f2, nI f3, nI f4, sL a d.length cap, nI f6] 131) = W0 at X B ⊢;refine (f.out _).mono ?_;rintro e r ⟨rfl, b⟩;replace X := row_keep b X;replace B := below_step B b;clear b f;obtain ⟨j, m, i, l, g, n, o⟩ := cells_7 X;go_wp2_with (first | (go_at_call 156; refine (between_any _ _ _ _).mono ?_; rintro e c ⟨rfl, rfl⟩) | (go_at_call 245; refine (lineNo_any _ _).mono ?_; rintro e c ⟨rfl, rfl⟩) | (go_at_call 91; refine (q.out _ B).mono ?_; rintro e y ⟨rfl, k⟩; replace X := row_keep k X; replace B := below_step B k; clear k j m i l g n o; obtain ⟨j, m, i, l, g, n, o⟩ := cells_7 X))
       go_ret
       exact ⟨rfl, B⟩
      ·skip
       go_enter Tryz.func210, Tryz.ntmps210;go_wp2_with fail
       generalize w.alloc (.cells #[nI f0, nI f1, nI f2, nI f3, nI f4, sL a d.length cap, nI f6] 131) = W0 at X B ⊢;refine (f.out _).mono ?_;rintro e r ⟨rfl, b⟩;replace X := row_keep b X;replace B := below_step B b;clear b f;obtain ⟨j, m, i, l, g, n, o⟩ := cells_7 X;go_wp2_with (first | (go_at_call 156; refine (between_any _ _ _ _).mono ?_; rintro e c ⟨rfl, rfl⟩) | (go_at_call 245; refine (lineNo_any _ _).mono ?_; rintro e c ⟨rfl, rfl⟩) | (go_at_call 91; refine (q.out _ B).mono ?_; rintro e y ⟨rfl, k⟩; replace X := row_keep k X; replace B := below_step B k; clear k j m i l g n o; obtain ⟨j, m, i, l, g, n, o⟩ := cells_7 X))
       go_ret
       exact ⟨rfl, B⟩
theorem specMsg_any (f0 f1 f2 f3 f4 f6 : Int) (d : List Int) (a : Option Addr) (cap : Nat) (w : World) (h : SlRd intR w a d) :
    Calls Tryz.prog 132 #[.agg #[nI f0, nI f1, nI f2, nI f3, nI f4, sL a d.length cap, nI f6]] w fun e c => e = .returned (.bool (msgB (f0, f1, f2, f3, f4, d, f6))) ∧ Bl w c := by
 have f : Hid _ := fun (W : World) (hb : Bl w W) => specLineOk_any a d cap W (reads_of (slrd_next h hb));have B := box_below w (.cells #[nI f0, nI f1, nI f2, nI f3, nI f4, sL a d.length cap, nI f6] 131);clear h;cases q : betw f0 0 2
 ·clear f;have b : Hid (msgB (f0, f1, f2, f3, f4, d, f6) = false) := by unfold Hid; rw [mb]; unfold endsB; simp [q]
  go_enter Tryz.func132, Tryz.ntmps132;go_wp2_with (first | (go_at_call 126; refine (l1In_any _ _ _ _).mono ?_; rintro e c ⟨rfl, rfl⟩))
  go_ret
  exact ⟨ret_bool b.out.symm, B⟩
 ·cases p : betw f1 0 5
  ·clear f;have b : Hid (msgB (f0, f1, f2, f3, f4, d, f6) = false) := by unfold Hid; rw [mb]; unfold endsB; simp [p]
   go_enter Tryz.func132, Tryz.ntmps132;go_wp2_with (first | (go_at_call 126; refine (l1In_any _ _ _ _).mono ?_; rintro e c ⟨rfl, rfl⟩))
   go_ret
   exact ⟨ret_bool b.out.symm, B⟩
  ·cases o : betw f2 0 5
   ·clear f;have b : Hid (msgB (f0, f1, f2, f3, f4, d, f6) = false) := by unfold Hid; rw [mb]; unfold endsB; simp [o]
    go_enter Tryz.func132, Tryz.ntmps132;go_wp2_with (first | (go_at_call 126; refine (l1In_any _ _ _ _).mono ?_; rintro e c ⟨rfl, rfl⟩))
    go_ret
    exact ⟨ret_bool b.out.symm, B⟩
   ·cases m : betw f4 0 15
    ·clear f;have b : Hid (msgB (f0, f1, f2, f3, f4, d, f6) = false) := by unfold Hid; rw [mb]; unfold endsB; simp [m]
     go_enter Tryz.func132, Tryz.ntmps132;go_wp2_with (first | (go_at_call 126; refine (l1In_any _ _ _ _).mono ?_; rintro e c ⟨rfl, rfl⟩))
     go_ret
     exact ⟨ret_bool b.out.symm, B⟩
    ·by_cases g : d.length = 0
     ·have k : Hid (dataB d = true) := data_nil g;have n : d = [] := List.eq_nil_of_length_eq_zero g;clear f;subst n;cases i : betw f3 1 15
      ·skip
       have b : Hid (msgB (f0, f1, f2, f3, f4, [], f6) = false) := by unfold Hid; rw [mb]; unfold endsB; simp [i]
       go_enter Tryz.func132, Tryz.ntmps132;go_wp2_with (first | (go_at_call 126; refine (l1In_any _ _ _ _).mono ?_; rintro e c ⟨rfl, rfl⟩))
       go_ret
       exact ⟨ret_bool b.out.symm, B⟩
      ·cases j : betw f6 0 15
       ·skip
        have b : Hid (msgB (f0, f1, f2, f3, f4, [], f6) = false) := by unfold Hid; rw [mb]; unfold endsB; simp [j]
        go_enter Tryz.func132, Tryz.ntmps132;go_wp2_with (first | (go_at_call 126; refine (l1In_any _ _ _ _).mono ?_; rintro e c ⟨rfl, rfl⟩))
        go_ret
        exact ⟨ret_bool b.out.symm, B⟩
       ·skip
        have b : Hid (msgB (f0, f1, f2, f3, f4, [], f6) = true) := by unfold Hid; rw [mb]; unfold endsB; simp [q, p, o, m, i, j, k.out]
        go_enter Tryz.func132, Tryz.ntmps132;go_wp2_with (first | (go_at_call 126; refine (l1In_any _ _ _ _).mono ?_; rintro e c ⟨rfl, rfl⟩))
        go_ret
        exact ⟨ret_bool b.out.symm, B⟩
     ·have k : Hid (dataB d = isL d) := data_line g;have v : ¬ (d = []) := fun e => g (by rw [e]; rfl);have r : ¬ ((d.length : Int) = 0) := by omega
      have s : ((d.length : Int) == 0) = false := beq_false_of_ne r;cases l : isL d
      ·rw [l] at f;have b : Hid (msgB (f0, f1, f2, f3, f4, d, f6) = false) := by unfold Hid; rw [mb]; unfold endsB; simp [k.out, l]
       go_enter Tryz.func132, Tryz.ntmps132;go_wp2_with (first | (go_at_call 126; refine (l1In_any _ _ _ _).mono ?_; rintro e c ⟨rfl, rfl⟩) | (go_at_call 131; refine (f.out _ B).mono ?_; rintro e c ⟨rfl, rfl⟩))
       go_ret
       exact ⟨ret_bool b.out.symm, B⟩
      ·rw [l] at f;cases i : betw f3 1 15
       ·skip
        have b : Hid (msgB (f0, f1, f2, f3, f4, d, f6) = false) := by unfold Hid; rw [mb]; unfold endsB; simp [i]
        go_enter Tryz.func132, Tryz.ntmps132;go_wp2_with (first | (go_at_call 126; refine (l1In_any _ _ _ _).mono ?_; rintro e c ⟨rfl, rfl⟩) | (go_at_call 131; refine (f.out _ B).mono ?_; rintro e c ⟨rfl, rfl⟩))
        go_ret
        exact ⟨ret_bool b.out.symm, B⟩
       ·cases j : betw f6 0 15
        ·skip
         have b : Hid (msgB (f0, f1, f2, f3, f4, d, f6) = false) := by unfold Hid; rw [mb]; unfold endsB; simp [j]
         go_enter Tryz.func132, Tryz.ntmps132;go_wp2_with (first | (go_at_call 126; refine (l1In_any _ _ _ _).mono ?_; rintro e c ⟨rfl, rfl⟩) | (go_at_call 131; refine (f.out _ B).mono ?_; rintro e c ⟨rfl, rfl⟩))
         go_ret
         exact ⟨ret_bool b.out.symm, B⟩
        ·skip
         have b : Hid (msgB (f0, f1, f2, f3, f4, d, f6) = true) := by unfold Hid; rw [mb]; unfold endsB; simp [q, p, o, m, i, j, k.out, l]
         go_enter Tryz.func132, Tryz.ntmps132;go_wp2_with (first | (go_at_call 126; refine (l1In_any _ _ _ _).mono ?_; rintro e c ⟨rfl, rfl⟩) | (go_at_call 131; refine (f.out _ B).mono ?_; rintro e c ⟨rfl, rfl⟩))
         go_ret
         exact ⟨ret_bool b.out.symm, B⟩
def netB (xs : List MsgD) : Bool := decide (xs.length ≤ 60) && xs.all msgB
def badI (xs : List MsgD) : Int := match xs.findIdx? (fun u => !msgB u) with
 | some i => (i : Int)
 | none => -1
theorem bad_at {xs : List MsgD} {k : Nat} {u : MsgD} (hu : xs[k]? = some u) (hp : msgB u = false) (hno : ∀ j v, j < k → xs[j]? = some v → msgB v = true) : badI xs = (k : Int) := by
 have a := (List.getElem?_eq_some_iff.1 hu).1;have : xs.findIdx? (fun u => !msgB u) = some k := by
  rw [List.findIdx?_eq_some_iff_getElem];refine ⟨a, ?_, fun j hj => ?_⟩
  ·rw [List.getElem?_eq_getElem a] at hu;cases hu;simp [hp]
  ·have := hno j _ hj (List.getElem?_eq_getElem (by omega));simp [this]
 unfold badI;rw [this]
theorem bad_no {xs : List MsgD} (hno : ∀ (j : Nat) (v : MsgD), xs[j]? = some v → msgB v = true) : badI xs = -1 := by
 have : xs.findIdx? (fun u => !msgB u) = none := by
  rw [List.findIdx?_eq_none_iff];intro u a;obtain ⟨j, b⟩ := List.getElem?_of_mem a;simp [hno j u b]
 unfold badI;rw [this]
theorem all_bad (xs : List MsgD) : xs.all msgB = decide (badI xs < 0) := by
 cases h : xs.all msgB
 ·have b : ¬ ∀ x ∈ xs, msgB x = true := fun hh => by rw [List.all_eq_true.2 hh] at h; cases h
  cases a : xs.findIdx? (fun u => !msgB u) with
  | none =>
   rw [List.findIdx?_eq_none_iff] at a;exact (b fun x hx => by have := a x hx; simpa using this).elim
  | some i => simp [badI, a]
 ·rw [bad_no fun j v hv => List.all_eq_true.1 h v (List.mem_of_getElem? hv)];rfl
theorem netOk1_any (f0 f1 f2 f3 f4 f6 : Int) (d : List Int) (a : Option Addr) (cap : Nat) (w : World) (h : SlRd intR w a d) :
    Calls Tryz.prog 209 #[.agg #[nI f0, nI f1, nI f2, nI f3, nI f4, sL a d.length cap, nI f6]] w fun e w' => e = .returned (.bool (!msgB (f0, f1, f2, f3, f4, d, f6))) ∧ Bl w w' := by
 have B := box_below w (.cells #[nI f0, nI f1, nI f2, nI f3, nI f4, sL a d.length cap, nI f6] 131);have b : Hid _ := fun (W : World) (hb : Bl w W) => implMsgOk_any f0 f1 f2 f3 f4 f6 d a cap W (slrd_next h hb);generalize msgB (f0, f1, f2, f3, f4, d, f6) = q at b ⊢;clear h;go_enter Tryz.func209, Tryz.ntmps209;go_wp2_with fail
 generalize w.alloc (.cells #[nI f0, nI f1, nI f2, nI f3, nI f4, sL a d.length cap, nI f6] 131) = W0 at B ⊢;refine (b.out _ B).mono ?_;rintro e w1 ⟨rfl, c⟩;go_wp2;go_ret
 exact ⟨rfl, below_step B c⟩
theorem indexBad_any (a : Option Addr) (xs : List MsgD) (cap : Nat) (w : World) (h : SlRd msgR w a xs) (hm : xs.length ≤ maxLen) :
    Calls Tryz.prog 243 #[sL a xs.length cap, .func (.func 209) #[] #[]] w fun e w' => e = .returned (nI (badI xs)) ∧ Bl w w' := by
 have N : xs.length ≤ 9223372036854775807 := hm;have S : Hid (∀ W, Bl w W → SlRd msgR W a xs) := fun W o => slrd_keep h fun k L => o.block k L;clear h hm;go_enter Tryz.func243, Tryz.ntmps243;go_wp2;go_loopw [8] (fun i wr => ∃ k : Nat, k ≤ xs.length ∧ i = nI k ∧ (∀ j v, j < k → xs[j]? = some v → msgB v = true) ∧ Bl w wr) (fun i _ => xs.length - (intOf i).toNat)
 case atStart => exact ⟨0, Nat.zero_le _, rfl, fun j v hj => by omega, Below.refl _ _⟩
 case round =>
  obtain ⟨k, L, rfl, m, g⟩ := hrel;by_cases I : k < xs.length
  ·have M : (k : Int) < (xs.length : Int) := by omega
   obtain ⟨x, z⟩ : ∃ x, xs[k]? = some x := ⟨_, List.getElem?_eq_getElem I⟩;obtain ⟨b, d, cs, rfl, f, c⟩ := slrd_at (S.out _ g) z;obtain ⟨A, n, rfl, -, -, -, -, -, -, F, C, q⟩ := msg_rd f;have B := c 0 _ rfl;have H := c 1 _ rfl;have y := c 2 _ rfl;have D := c 3 _ rfl;have s := c 4 _ rfl;have G := c 5 _ rfl;have J := c 6 _ rfl;rw [show d + (k * msgR.size + 0) = d + k * 7 from rfl] at B;rw [show d + (k * msgR.size + 1) = d + k * 7 + 1 from rfl] at H;rw [show d + (k * msgR.size + 2) = d + k * 7 + 2 from rfl] at y;rw [show d + (k * msgR.size + 3) = d + k * 7 + 3 from rfl] at D;rw [show d + (k * msgR.size + 4) = d + k * 7 + 4 from rfl] at s;rw [show d + (k * msgR.size + 5) = d + k * 7 + 5 from rfl] at G;rw [show d + (k * msgR.size + 6) = d + k * 7 + 6 from rfl] at J;clear c f F C;have p := netOk1_any x.1 x.2.1 x.2.2.1 x.2.2.2.1 x.2.2.2.2.1 x.2.2.2.2.2.2 x.2.2.2.2.2.1 A n wr q;have K : Hid (xs[k]? = some x) := z;clear z q;cases o : msgB x
   ·have E : Hid (badI xs = k) := bad_at K.out o m;have l : Hid (Calls Tryz.prog 209 #[.agg #[nI x.1, nI x.2.1, nI x.2.2.1, nI x.2.2.2.1, nI x.2.2.2.2.1, sL A x.2.2.2.2.2.1.length n, nI x.2.2.2.2.2.2]] wr fun e w' => e = .returned (.bool true) ∧ Bl wr w') := by rw [show msgB (x.1, x.2.1, x.2.2.1, x.2.2.2.1, x.2.2.2.2.1, x.2.2.2.2.2.1, x.2.2.2.2.2.2) = msgB x from rfl, o] at p; exact p
    clear p;go_wp2_with fail
    refine l.out.mono ?_;rintro e O ⟨rfl, r⟩;replace g := below_step g r;clear r B H y D s G J;go_wp2;go_ret
    exact ⟨ret_int E.out.symm, g⟩
   ·have l : Hid (Calls Tryz.prog 209 #[.agg #[nI x.1, nI x.2.1, nI x.2.2.1, nI x.2.2.2.1, nI x.2.2.2.2.1, sL A x.2.2.2.2.2.1.length n, nI x.2.2.2.2.2.2]] wr fun e w' => e = .returned (.bool false) ∧ Bl wr w') := by rw [show msgB (x.1, x.2.1, x.2.2.1, x.2.2.2.1, x.2.2.2.2.1, x.2.2.2.2.2.1, x.2.2.2.2.2.2) = msgB x from rfl, o] at p; exact p
    clear p;go_wp2_with fail
    refine l.out.mono ?_;rintro e O ⟨rfl, r⟩;replace g := below_step g r;clear r B H y D s G J;go_wp2;go_roundw
    case rel =>
     refine ⟨k + 1, by omega, by go_num, fun j v hj hv => ?_, g⟩;by_cases R : j < k
     ·exact m j v R hv
     ·have : j = k := by omega
      subst this;rw [K.out] at hv;cases hv;exact o
    case measure => simp [intOf]; omega
  ·have E : Hid (badI xs = -1) := bad_no fun j v hv => m j v (by have := (List.getElem?_eq_some_iff.1 hv).1; omega) hv;go_wp2;go_ret
   exact ⟨ret_int E.out.symm, g⟩
theorem containsBad_any (a : Option Addr) (xs : List MsgD) (cap : Nat) (w : World) (h : SlRd msgR w a xs) (hm : xs.length ≤ maxLen) :
    Calls Tryz.prog 208 #[sL a xs.length cap, .func (.func 209) #[] #[]] w fun e w' => e = .returned (.bool (!xs.all msgB)) ∧ Bl w w' := by
 have f := indexBad_any a xs cap w h hm;have b := all_bad xs;clear h hm;generalize badI xs = q at f b;generalize xs.all msgB = y at b ⊢;subst b;by_cases g : q < 0
 ·have c : ¬ (0 ≤ q) := by omega
  go_enter Tryz.func208, Tryz.ntmps208;go_wp2_with fail
  refine f.mono ?_;rintro e i ⟨rfl, d⟩;go_wp2;go_ret
  exact ⟨by simp [g], d⟩
 ·have c : 0 ≤ q := by omega
  go_enter Tryz.func208, Tryz.ntmps208;go_wp2_with fail
  refine f.mono ?_;rintro e i ⟨rfl, d⟩;go_wp2;go_ret
  exact ⟨by simp [g], d⟩
theorem implNetOk_any (a : Option Addr) (xs : List MsgD) (cap : Nat) (w : World) (h : SlRd msgR w a xs) (hm : xs.length ≤ maxLen) :
    Calls Tryz.prog 151 #[sL a xs.length cap] w fun e w' => e = .returned (.bool (netB xs)) ∧ Bl w w' := by
 have c := containsBad_any a xs cap w h hm;have g : xs.length ≤ 9223372036854775807 := hm;unfold netB;generalize xs.all msgB = y at c ⊢;clear h hm;by_cases d : xs.length ≤ 60
 ·have b : (xs.length : Int) ≤ 60 := by omega
  go_enter Tryz.func151, Tryz.ntmps151;go_wp2_with fail
  refine c.mono ?_;rintro e w1 ⟨rfl, f⟩;go_wp2;go_ret
  exact ⟨by simp [d], f⟩
 ·have b : ¬ ((xs.length : Int) ≤ 60) := by omega
  go_enter Tryz.func151, Tryz.ntmps151;go_wp2;go_ret
  exact ⟨by simp, Below.refl _ _⟩
theorem specNetOk_any (a : Option Addr) (xs : List MsgD) (cap : Nat) (w : World) (h : SlRd msgR w a xs) (hm : xs.length ≤ maxLen) :
    Calls Tryz.prog 70 #[sL a xs.length cap] w fun e w' => e = .returned (.bool (netB xs)) ∧ Bl w w' := by
 have R : xs.length ≤ 9223372036854775807 := hm;have U : Hid (∀ W, Bl w W → SlRd msgR W a xs) := fun W o => slrd_keep h fun k N => o.block k N;clear h hm;by_cases L : xs.length ≤ 60
 ·have F : ¬ ((60 : Int) < (xs.length : Int)) := by omega
  go_enter Tryz.func70, Tryz.ntmps70;go_wp2;go_loopw [3] (fun i wr => ∃ k : Nat, k ≤ xs.length ∧ i = nI k ∧ (∀ j v, j < k → xs[j]? = some v → msgB v = true) ∧ Bl w wr) (fun i _ => xs.length - (intOf i).toNat)
  case atStart => exact ⟨0, Nat.zero_le _, rfl, fun j v hj => by omega, Below.refl _ _⟩
  case round =>
   obtain ⟨k, N, rfl, m, g⟩ := hrel;by_cases J : k < xs.length
   ·have O : (k : Int) < (xs.length : Int) := by omega
    obtain ⟨x, A⟩ : ∃ x, xs[k]? = some x := ⟨_, List.getElem?_eq_getElem J⟩;obtain ⟨b, d, cs, rfl, f, c⟩ := slrd_at (U.out _ g) A;obtain ⟨B, n, rfl, -, -, -, -, -, -, G, E, r⟩ := msg_rd f;have C := c 0 _ rfl;have I := c 1 _ rfl;have z := c 2 _ rfl;have D := c 3 _ rfl;have y := c 4 _ rfl;have H := c 5 _ rfl;have K := c 6 _ rfl;rw [show d + (k * msgR.size + 0) = d + k * 7 from rfl] at C;rw [show d + (k * msgR.size + 1) = d + k * 7 + 1 from rfl] at I;rw [show d + (k * msgR.size + 2) = d + k * 7 + 2 from rfl] at z;rw [show d + (k * msgR.size + 3) = d + k * 7 + 3 from rfl] at D;rw [show d + (k * msgR.size + 4) = d + k * 7 + 4 from rfl] at y;rw [show d + (k * msgR.size + 5) = d + k * 7 + 5 from rfl] at H;rw [show d + (k * msgR.size + 6) = d + k * 7 + 6 from rfl] at K;clear c f G E;have p := specMsg_any x.1 x.2.1 x.2.2.1 x.2.2.2.1 x.2.2.2.2.1 x.2.2.2.2.2.2 x.2.2.2.2.2.1 B n wr r;have M : Hid (xs[k]? = some x) := A;clear A r;cases o : msgB x
    ·have q : Hid (netB xs = false) := by
       unfold Hid netB;rw [all_bad, bad_at M.out o m];simp
     have l : Hid (Calls Tryz.prog 132 #[.agg #[nI x.1, nI x.2.1, nI x.2.2.1, nI x.2.2.2.1, nI x.2.2.2.2.1, sL B x.2.2.2.2.2.1.length n, nI x.2.2.2.2.2.2]] wr fun e w' => e = .returned (.bool false) ∧ Bl wr w') := by rw [show msgB (x.1, x.2.1, x.2.2.1, x.2.2.2.1, x.2.2.2.2.1, x.2.2.2.2.2.1, x.2.2.2.2.2.2) = msgB x from rfl, o] at p; exact p
     clear p;go_wp2_with fail
     refine l.out.mono ?_;rintro e S ⟨rfl, s⟩;replace g := below_step g s;clear s C I z D y H K;go_wp2;go_ret
     exact ⟨ret_bool q.out.symm, g⟩
    ·have l : Hid (Calls Tryz.prog 132 #[.agg #[nI x.1, nI x.2.1, nI x.2.2.1, nI x.2.2.2.1, nI x.2.2.2.2.1, sL B x.2.2.2.2.2.1.length n, nI x.2.2.2.2.2.2]] wr fun e w' => e = .returned (.bool true) ∧ Bl wr w') := by rw [show msgB (x.1, x.2.1, x.2.2.1, x.2.2.2.1, x.2.2.2.2.1, x.2.2.2.2.2.1, x.2.2.2.2.2.2) = msgB x from rfl, o] at p; exact p
     clear p;go_wp2_with fail
     refine l.out.mono ?_;rintro e S ⟨rfl, s⟩;replace g := below_step g s;clear s C I z D y H K;go_wp2;go_roundw
     case rel =>
      refine ⟨k + 1, by omega, by go_num, fun j v hj hv => ?_, g⟩;by_cases T : j < k
      ·exact m j v T hv
      ·have : j = k := by omega
       subst this;rw [M.out] at hv;cases hv;exact o
     case measure => simp [intOf]; omega
   ·have q : Hid (netB xs = true) := by
      unfold Hid netB;rw [all_bad, bad_no fun j v hv => m j v (by have := (List.getElem?_eq_some_iff.1 hv).1; omega) hv];simp [L]
    go_wp2;go_ret
    exact ⟨ret_bool q.out.symm, g⟩
 ·have q : Hid (netB xs = false) := by unfold Hid netB; simp [L]
  have F : (60 : Int) < (xs.length : Int) := by omega
  go_enter Tryz.func70, Tryz.ntmps70;go_wp2;go_ret
  exact ⟨ret_bool q.out.symm, Below.refl _ _⟩
end Go.Proofs.YtdamokokcdcedaaGreatDoor
