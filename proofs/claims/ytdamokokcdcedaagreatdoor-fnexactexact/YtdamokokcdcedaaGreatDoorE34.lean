import Derived.Test.YtdamokokcdcedaaGreatDoorE00Box
import Derived.Test.YtdamokokcdcedaaGreatDoorE11
import Derived.Test.YtdamokokcdcedaaGreatDoorE09
namespace Go.Proofs.YtdamokokcdcedaaGreatDoor
set_option maxHeartbeats 4000000
open Go.ChangeShapes Go.WideShapes Go.ChangeAt Go.RowKit
set_option linter.unusedVariables false
def endsB (r f t : Int) : Bool := betw r 0 2 && (betw f 0 5 && betw t 0 5)
def dataB (d : List Int) : Bool := d.isEmpty || isL d
def msgB (u : MsgD) : Bool := endsB u.1 u.2.1 u.2.2.1 && (betw u.2.2.2.1 1 15 && (betw u.2.2.2.2.1 0 15 && (dataB u.2.2.2.2.2.1 && betw u.2.2.2.2.2.2 0 15)))
theorem data_nil {d : List Int} (h : d.length = 0) : dataB d = true := by
 have : d = [] := List.eq_nil_of_length_eq_zero h;subst this;rfl
theorem data_line {d : List Int} (h : ¬ d.length = 0) : dataB d = isL d := by
 cases d with
 | nil => exact (h rfl).elim
 | cons x r => rfl
theorem mb {r f t k l g : Int} {d : List Int} : msgB (r, f, t, k, l, d, g) = (endsB r f t && (betw k 1 15 && (betw l 0 15 && (dataB d && betw g 0 15)))) := rfl
theorem lineNo_any (k : Int) (w : World) : Calls Tryz.prog 245 #[nI k] w fun e a => e = .returned (.bool (betw k 0 15)) ∧ a = w := by
 go_enter Tryz.func245, Tryz.ntmps245;go_wp2_with (go_at_call 156; refine (between_any _ _ _ _).mono ?_; rintro e a ⟨rfl, rfl⟩)
 go_ret
 exact ⟨rfl, rfl⟩
theorem implEnds_any (f0 f1 f2 f3 f4 f6 : Int) (d : List Int) (a : Option Addr) (cap : Nat) (w : World) :
    Calls Tryz.prog 244 #[.agg #[nI f0, nI f1, nI f2, nI f3, nI f4, sL a d.length cap, nI f6]] w fun e b => e = .returned (.bool (endsB f0 f1 f2)) ∧ Bl w b := by
 have c : Hid _ := box_below w;unfold endsB;cases h1 : betw f0 0 2
 ·go_enter Tryz.func244, Tryz.ntmps244;go_wp2_with (go_at_call 156; refine (between_any _ _ _ _).mono ?_; rintro e b ⟨rfl, rfl⟩)
  go_ret
  exact ⟨rfl, c.out _⟩
 ·cases h2 : betw f1 0 5
  ·go_enter Tryz.func244, Tryz.ntmps244;go_wp2_with (go_at_call 156; refine (between_any _ _ _ _).mono ?_; rintro e b ⟨rfl, rfl⟩)
   go_ret
   exact ⟨rfl, c.out _⟩
  ·go_enter Tryz.func244, Tryz.ntmps244;go_wp2_with (go_at_call 156; refine (between_any _ _ _ _).mono ?_; rintro e b ⟨rfl, rfl⟩)
   go_ret
   exact ⟨rfl, c.out _⟩
theorem implMsgOk_any (f0 f1 f2 f3 f4 f6 : Int) (d : List Int) (a : Option Addr) (cap : Nat) (w : World) (h : SlRd intR w a d) :
    Calls Tryz.prog 210 #[.agg #[nI f0, nI f1, nI f2, nI f3, nI f4, sL a d.length cap, nI f6]] w fun e c => e = .returned (.bool (msgB (f0, f1, f2, f3, f4, d, f6))) ∧ Bl w c := by
 have f : Hid (∀ W, Calls Tryz.prog 244 #[.agg #[nI f0, nI f1, nI f2, nI f3, nI f4, sL a d.length cap, nI f6]] W fun e c => e = .returned (.bool (endsB f0 f1 f2)) ∧ Bl W c) := fun W => implEnds_any f0 f1 f2 f3 f4 f6 d a cap W;have q : Hid _ := fun (W : World) (k : Bl w W) => implLineOk_any a d cap W (reads_of (slrd_next h k));have X := heap_at w (.cells #[nI f0, nI f1, nI f2, nI f3, nI f4, sL a d.length cap, nI f6] 131);have B := box_below w (.cells #[nI f0, nI f1, nI f2, nI f3, nI f4, sL a d.length cap, nI f6] 131);clear h;rw [mb];cases y : endsB f0 f1 f2
 ·rw [y] at f;go_enter Tryz.func210, Tryz.ntmps210;go_wp2_with fail
  generalize w.alloc (.cells #[nI f0, nI f1, nI f2, nI f3, nI f4, sL a d.length cap, nI f6] 131) = W0 at X B ⊢;refine (f.out _).mono ?_;rintro e r ⟨rfl, b⟩;replace X := row_keep b X;replace B := below_step B b;clear b f;obtain ⟨o, l, n, m, j, i, g⟩ := cells_7 X;go_wp2_with (first | (go_at_call 156; refine (between_any _ _ _ _).mono ?_; rintro e c ⟨rfl, rfl⟩) | (go_at_call 245; refine (lineNo_any _ _).mono ?_; rintro e c ⟨rfl, rfl⟩))
  go_ret
  exact ⟨rfl, B⟩
 ·rw [y] at f;cases h2 : betw f3 1 15
  ·clear q;go_enter Tryz.func210, Tryz.ntmps210;go_wp2_with fail
   generalize w.alloc (.cells #[nI f0, nI f1, nI f2, nI f3, nI f4, sL a d.length cap, nI f6] 131) = W0 at X B ⊢;refine (f.out _).mono ?_;rintro e r ⟨rfl, b⟩;replace X := row_keep b X;replace B := below_step B b;clear b f;obtain ⟨o, l, n, m, j, i, g⟩ := cells_7 X;go_wp2_with (first | (go_at_call 156; refine (between_any _ _ _ _).mono ?_; rintro e c ⟨rfl, rfl⟩) | (go_at_call 245; refine (lineNo_any _ _).mono ?_; rintro e c ⟨rfl, rfl⟩))
   go_ret
   exact ⟨rfl, B⟩
  ·cases h3 : betw f4 0 15
   ·clear q;go_enter Tryz.func210, Tryz.ntmps210;go_wp2_with fail
    generalize w.alloc (.cells #[nI f0, nI f1, nI f2, nI f3, nI f4, sL a d.length cap, nI f6] 131) = W0 at X B ⊢;refine (f.out _).mono ?_;rintro e r ⟨rfl, b⟩;replace X := row_keep b X;replace B := below_step B b;clear b f;obtain ⟨o, l, n, m, j, i, g⟩ := cells_7 X;go_wp2_with (first | (go_at_call 156; refine (between_any _ _ _ _).mono ?_; rintro e c ⟨rfl, rfl⟩) | (go_at_call 245; refine (lineNo_any _ _).mono ?_; rintro e c ⟨rfl, rfl⟩))
    go_ret
    exact ⟨rfl, B⟩
   ·by_cases p : d.length = 0
    ·have C : Hid (dataB d = true) := data_nil p;rw [C.out];have s : d = [] := List.eq_nil_of_length_eq_zero p;clear q;cases F : betw f6 0 15
     ·subst s;go_enter Tryz.func210, Tryz.ntmps210;go_wp2_with fail
      generalize w.alloc (.cells #[nI f0, nI f1, nI f2, nI f3, nI f4, sL a ([] : List Int).length cap, nI f6] 131) = W0 at X B ⊢;refine (f.out _).mono ?_;rintro e r ⟨rfl, b⟩;replace X := row_keep b X;replace B := below_step B b;clear b f;obtain ⟨o, l, n, m, j, i, g⟩ := cells_7 X;go_wp2_with (first | (go_at_call 156; refine (between_any _ _ _ _).mono ?_; rintro e c ⟨rfl, rfl⟩) | (go_at_call 245; refine (lineNo_any _ _).mono ?_; rintro e c ⟨rfl, rfl⟩))
      go_ret
      exact ⟨rfl, B⟩
     ·subst s;go_enter Tryz.func210, Tryz.ntmps210;go_wp2_with fail
      generalize w.alloc (.cells #[nI f0, nI f1, nI f2, nI f3, nI f4, sL a ([] : List Int).length cap, nI f6] 131) = W0 at X B ⊢;refine (f.out _).mono ?_;rintro e r ⟨rfl, b⟩;replace X := row_keep b X;replace B := below_step B b;clear b f;obtain ⟨o, l, n, m, j, i, g⟩ := cells_7 X;go_wp2_with (first | (go_at_call 156; refine (between_any _ _ _ _).mono ?_; rintro e c ⟨rfl, rfl⟩) | (go_at_call 245; refine (lineNo_any _ _).mono ?_; rintro e c ⟨rfl, rfl⟩))
      go_ret
      exact ⟨rfl, B⟩
    ·rw [data_line p];have E : ¬ (d = []) := fun e => p (by rw [e]; rfl);have D : ¬ ((d.length : Int) = 0) := by omega
     have A : ((d.length : Int) == 0) = false := beq_false_of_ne D;cases z : isL d
     ·rw [z] at q;go_enter Tryz.func210, Tryz.ntmps210;go_wp2_with fail
      generalize w.alloc (.cells #[nI f0, nI f1, nI f2, nI f3, nI f4, sL a d.length cap, nI f6] 131) = W0 at X B ⊢;refine (f.out _).mono ?_;rintro e r ⟨rfl, b⟩;replace X := row_keep b X;replace B := below_step B b;clear b f;obtain ⟨o, l, n, m, j, i, g⟩ := cells_7 X;go_wp2_with (first | (go_at_call 156; refine (between_any _ _ _ _).mono ?_; rintro e c ⟨rfl, rfl⟩) | (go_at_call 245; refine (lineNo_any _ _).mono ?_; rintro e c ⟨rfl, rfl⟩) | (go_at_call 91; refine (q.out _ B).mono ?_; rintro e v ⟨rfl, k⟩; replace X := row_keep k X; replace B := below_step B k; clear k o l n m j i g; obtain ⟨o, l, n, m, j, i, g⟩ := cells_7 X))
      go_ret
      exact ⟨rfl, B⟩
     ·rw [z] at q;cases F : betw f6 0 15
      ·skip
       go_enter Tryz.func210, Tryz.ntmps210;go_wp2_with fail
       generalize w.alloc (.cells #[nI f0, nI f1, nI f2, nI f3, nI f4, sL a d.length cap, nI f6] 131) = W0 at X B ⊢;refine (f.out _).mono ?_;rintro e r ⟨rfl, b⟩;replace X := row_keep b X;replace B := below_step B b;clear b f;obtain ⟨o, l, n, m, j, i, g⟩ := cells_7 X;go_wp2_with (first | (go_at_call 156; refine (between_any _ _ _ _).mono ?_; rintro e c ⟨rfl, rfl⟩) | (go_at_call 245; refine (lineNo_any _ _).mono ?_; rintro e c ⟨rfl, rfl⟩) | (go_at_call 91; refine (q.out _ B).mono ?_; rintro e v ⟨rfl, k⟩; replace X := row_keep k X; replace B := below_step B k; clear k o l n m j i g; obtain ⟨o, l, n, m, j, i, g⟩ := cells_7 X))
       go_ret
       exact ⟨rfl, B⟩
      ·skip
       go_enter Tryz.func210, Tryz.ntmps210;go_wp2_with fail
       generalize w.alloc (.cells #[nI f0, nI f1, nI f2, nI f3, nI f4, sL a d.length cap, nI f6] 131) = W0 at X B ⊢;refine (f.out _).mono ?_;rintro e r ⟨rfl, b⟩;replace X := row_keep b X;replace B := below_step B b;clear b f;obtain ⟨o, l, n, m, j, i, g⟩ := cells_7 X;go_wp2_with (first | (go_at_call 156; refine (between_any _ _ _ _).mono ?_; rintro e c ⟨rfl, rfl⟩) | (go_at_call 245; refine (lineNo_any _ _).mono ?_; rintro e c ⟨rfl, rfl⟩) | (go_at_call 91; refine (q.out _ B).mono ?_; rintro e v ⟨rfl, k⟩; replace X := row_keep k X; replace B := below_step B k; clear k o l n m j i g; obtain ⟨o, l, n, m, j, i, g⟩ := cells_7 X))
       go_ret
       exact ⟨rfl, B⟩
theorem specMsg_any (f0 f1 f2 f3 f4 f6 : Int) (d : List Int) (a : Option Addr) (cap : Nat) (w : World) (h : SlRd intR w a d) :
    Calls Tryz.prog 132 #[.agg #[nI f0, nI f1, nI f2, nI f3, nI f4, sL a d.length cap, nI f6]] w fun e c => e = .returned (.bool (msgB (f0, f1, f2, f3, f4, d, f6))) ∧ Bl w c := by
 have f : Hid _ := fun (W : World) (hb : Bl w W) => specLineOk_any a d cap W (reads_of (slrd_next h hb));have B := box_below w (.cells #[nI f0, nI f1, nI f2, nI f3, nI f4, sL a d.length cap, nI f6] 131);clear h;cases m : betw f0 0 2
 ·clear f;have b : Hid (msgB (f0, f1, f2, f3, f4, d, f6) = false) := by unfold Hid; rw [mb]; unfold endsB; simp [m]
  go_enter Tryz.func132, Tryz.ntmps132;go_wp2_with (first | (go_at_call 126; refine (l1In_any _ _ _ _).mono ?_; rintro e c ⟨rfl, rfl⟩))
  go_ret
  exact ⟨ret_bool b.out.symm, B⟩
 ·cases q : betw f1 0 5
  ·clear f;have b : Hid (msgB (f0, f1, f2, f3, f4, d, f6) = false) := by unfold Hid; rw [mb]; unfold endsB; simp [q]
   go_enter Tryz.func132, Tryz.ntmps132;go_wp2_with (first | (go_at_call 126; refine (l1In_any _ _ _ _).mono ?_; rintro e c ⟨rfl, rfl⟩))
   go_ret
   exact ⟨ret_bool b.out.symm, B⟩
  ·cases p : betw f2 0 5
   ·clear f;have b : Hid (msgB (f0, f1, f2, f3, f4, d, f6) = false) := by unfold Hid; rw [mb]; unfold endsB; simp [p]
    go_enter Tryz.func132, Tryz.ntmps132;go_wp2_with (first | (go_at_call 126; refine (l1In_any _ _ _ _).mono ?_; rintro e c ⟨rfl, rfl⟩))
    go_ret
    exact ⟨ret_bool b.out.symm, B⟩
   ·cases o : betw f4 0 15
    ·clear f;have b : Hid (msgB (f0, f1, f2, f3, f4, d, f6) = false) := by unfold Hid; rw [mb]; unfold endsB; simp [o]
     go_enter Tryz.func132, Tryz.ntmps132;go_wp2_with (first | (go_at_call 126; refine (l1In_any _ _ _ _).mono ?_; rintro e c ⟨rfl, rfl⟩))
     go_ret
     exact ⟨ret_bool b.out.symm, B⟩
    ·by_cases g : d.length = 0
     ·have l : Hid (dataB d = true) := data_nil g;have n : d = [] := List.eq_nil_of_length_eq_zero g;clear f;subst n;cases j : betw f3 1 15
      ·skip
       have b : Hid (msgB (f0, f1, f2, f3, f4, [], f6) = false) := by unfold Hid; rw [mb]; unfold endsB; simp [j]
       go_enter Tryz.func132, Tryz.ntmps132;go_wp2_with (first | (go_at_call 126; refine (l1In_any _ _ _ _).mono ?_; rintro e c ⟨rfl, rfl⟩))
       go_ret
       exact ⟨ret_bool b.out.symm, B⟩
      ·cases i : betw f6 0 15
       ·skip
        have b : Hid (msgB (f0, f1, f2, f3, f4, [], f6) = false) := by unfold Hid; rw [mb]; unfold endsB; simp [i]
        go_enter Tryz.func132, Tryz.ntmps132;go_wp2_with (first | (go_at_call 126; refine (l1In_any _ _ _ _).mono ?_; rintro e c ⟨rfl, rfl⟩))
        go_ret
        exact ⟨ret_bool b.out.symm, B⟩
       ·skip
        have b : Hid (msgB (f0, f1, f2, f3, f4, [], f6) = true) := by unfold Hid; rw [mb]; unfold endsB; simp [m, q, p, o, j, i, l.out]
        go_enter Tryz.func132, Tryz.ntmps132;go_wp2_with (first | (go_at_call 126; refine (l1In_any _ _ _ _).mono ?_; rintro e c ⟨rfl, rfl⟩))
        go_ret
        exact ⟨ret_bool b.out.symm, B⟩
     ·have l : Hid (dataB d = isL d) := data_line g;have v : ¬ (d = []) := fun e => g (by rw [e]; rfl);have s : ¬ ((d.length : Int) = 0) := by omega
      have r : ((d.length : Int) == 0) = false := beq_false_of_ne s;cases k : isL d
      ·rw [k] at f;have b : Hid (msgB (f0, f1, f2, f3, f4, d, f6) = false) := by unfold Hid; rw [mb]; unfold endsB; simp [l.out, k]
       go_enter Tryz.func132, Tryz.ntmps132;go_wp2_with (first | (go_at_call 126; refine (l1In_any _ _ _ _).mono ?_; rintro e c ⟨rfl, rfl⟩) | (go_at_call 131; refine (f.out _ B).mono ?_; rintro e c ⟨rfl, rfl⟩))
       go_ret
       exact ⟨ret_bool b.out.symm, B⟩
      ·rw [k] at f;cases j : betw f3 1 15
       ·skip
        have b : Hid (msgB (f0, f1, f2, f3, f4, d, f6) = false) := by unfold Hid; rw [mb]; unfold endsB; simp [j]
        go_enter Tryz.func132, Tryz.ntmps132;go_wp2_with (first | (go_at_call 126; refine (l1In_any _ _ _ _).mono ?_; rintro e c ⟨rfl, rfl⟩) | (go_at_call 131; refine (f.out _ B).mono ?_; rintro e c ⟨rfl, rfl⟩))
        go_ret
        exact ⟨ret_bool b.out.symm, B⟩
       ·cases i : betw f6 0 15
        ·skip
         have b : Hid (msgB (f0, f1, f2, f3, f4, d, f6) = false) := by unfold Hid; rw [mb]; unfold endsB; simp [i]
         go_enter Tryz.func132, Tryz.ntmps132;go_wp2_with (first | (go_at_call 126; refine (l1In_any _ _ _ _).mono ?_; rintro e c ⟨rfl, rfl⟩) | (go_at_call 131; refine (f.out _ B).mono ?_; rintro e c ⟨rfl, rfl⟩))
         go_ret
         exact ⟨ret_bool b.out.symm, B⟩
        ·skip
         have b : Hid (msgB (f0, f1, f2, f3, f4, d, f6) = true) := by unfold Hid; rw [mb]; unfold endsB; simp [m, q, p, o, j, i, l.out, k]
         go_enter Tryz.func132, Tryz.ntmps132;go_wp2_with (first | (go_at_call 126; refine (l1In_any _ _ _ _).mono ?_; rintro e c ⟨rfl, rfl⟩) | (go_at_call 131; refine (f.out _ B).mono ?_; rintro e c ⟨rfl, rfl⟩))
         go_ret
         exact ⟨ret_bool b.out.symm, B⟩
def netB (xs : List MsgD) : Bool := decide (xs.length ≤ 60) && xs.all msgB
def badI (xs : List MsgD) : Int := match xs.findIdx? (fun u => !msgB u) with
 | some i => (i : Int)
 | none => -1
theorem bad_at {xs : List MsgD} {k : Nat} {u : MsgD} (hu : xs[k]? = some u) (hp : msgB u = false) (hno : ∀ j v, j < k → xs[j]? = some v → msgB v = true) : badI xs = (k : Int) := by
 have a := (List.getElem?_eq_some_iff.1 hu).1;have : xs.findIdx? (fun u => !msgB u) = some k := by
  rw [List.findIdx?_eq_some_iff_getElem];refine ⟨a, ?_, fun j hj => ?_⟩
  ·rw [List.getElem?_eq_getElem a] at hu;cases hu;simp [hp]
  ·have := hno j _ hj (List.getElem?_eq_getElem (by omega));simp [this]
 unfold badI;rw [this]
theorem bad_no {xs : List MsgD} (hno : ∀ (j : Nat) (v : MsgD), xs[j]? = some v → msgB v = true) : badI xs = -1 := by
 have : xs.findIdx? (fun u => !msgB u) = none := by
  rw [List.findIdx?_eq_none_iff];intro u a;obtain ⟨j, b⟩ := List.getElem?_of_mem a;simp [hno j u b]
 unfold badI;rw [this]
theorem all_bad (xs : List MsgD) : xs.all msgB = decide (badI xs < 0) := by
 cases h : xs.all msgB
 ·have b : ¬ ∀ x ∈ xs, msgB x = true := fun hh => by rw [List.all_eq_true.2 hh] at h; cases h
  cases a : xs.findIdx? (fun u => !msgB u) with
  | none =>
   rw [List.findIdx?_eq_none_iff] at a;exact (b fun x hx => by have := a x hx; simpa using this).elim
  | some i => simp [badI, a]
 ·rw [bad_no fun j v hv => List.all_eq_true.1 h v (List.mem_of_getElem? hv)];rfl
theorem netOk1_any (f0 f1 f2 f3 f4 f6 : Int) (d : List Int) (a : Option Addr) (cap : Nat) (w : World) (h : SlRd intR w a d) :
    Calls Tryz.prog 209 #[.agg #[nI f0, nI f1, nI f2, nI f3, nI f4, sL a d.length cap, nI f6]] w fun e w' => e = .returned (.bool (!msgB (f0, f1, f2, f3, f4, d, f6))) ∧ Bl w w' := by
 have B := box_below w (.cells #[nI f0, nI f1, nI f2, nI f3, nI f4, sL a d.length cap, nI f6] 131);have b : Hid _ := fun (W : World) (hb : Bl w W) => implMsgOk_any f0 f1 f2 f3 f4 f6 d a cap W (slrd_next h hb);generalize msgB (f0, f1, f2, f3, f4, d, f6) = q at b ⊢;clear h;go_enter Tryz.func209, Tryz.ntmps209;go_wp2_with fail
 generalize w.alloc (.cells #[nI f0, nI f1, nI f2, nI f3, nI f4, sL a d.length cap, nI f6] 131) = W0 at B ⊢;refine (b.out _ B).mono ?_;rintro e w1 ⟨rfl, c⟩;go_wp2;go_ret
 exact ⟨rfl, below_step B c⟩
theorem indexBad_any (a : Option Addr) (xs : List MsgD) (cap : Nat) (w : World) (h : SlRd msgR w a xs) (hm : xs.length ≤ maxLen) :
    Calls Tryz.prog 243 #[sL a xs.length cap, .func (.func 209) #[] #[]] w fun e w' => e = .returned (nI (badI xs)) ∧ Bl w w' := by
 have O : xs.length ≤ 9223372036854775807 := hm;have R : Hid (∀ W, Bl w W → SlRd msgR W a xs) := fun W p => slrd_keep h fun k L => p.block k L;clear h hm;go_enter Tryz.func243, Tryz.ntmps243;go_wp2;go_loopw [8] (fun i wr => ∃ k : Nat, k ≤ xs.length ∧ i = nI k ∧ (∀ j v, j < k → xs[j]? = some v → msgB v = true) ∧ Bl w wr) (fun i _ => xs.length - (intOf i).toNat)
 case atStart => exact ⟨0, Nat.zero_le _, rfl, fun j v hj => by omega, Below.refl _ _⟩
 case round =>
  obtain ⟨k, L, rfl, l, g⟩ := hrel;by_cases E : k < xs.length
  ·have M : (k : Int) < (xs.length : Int) := by omega
   obtain ⟨x, G⟩ : ∃ x, xs[k]? = some x := ⟨_, List.getElem?_eq_getElem E⟩;obtain ⟨b, d, cs, rfl, f, c⟩ := slrd_at (R.out _ g) G;obtain ⟨J, n, rfl, -, -, -, -, -, -, C, D, q⟩ := msg_rd f;have z := c 0 _ rfl;have F := c 1 _ rfl;have I := c 2 _ rfl;have H := c 3 _ rfl;have A := c 4 _ rfl;have y := c 5 _ rfl;have s := c 6 _ rfl;rw [show d + (k * msgR.size + 0) = d + k * 7 from rfl] at z;rw [show d + (k * msgR.size + 1) = d + k * 7 + 1 from rfl] at F;rw [show d + (k * msgR.size + 2) = d + k * 7 + 2 from rfl] at I;rw [show d + (k * msgR.size + 3) = d + k * 7 + 3 from rfl] at H;rw [show d + (k * msgR.size + 4) = d + k * 7 + 4 from rfl] at A;rw [show d + (k * msgR.size + 5) = d + k * 7 + 5 from rfl] at y;rw [show d + (k * msgR.size + 6) = d + k * 7 + 6 from rfl] at s;clear c f C D;have o := netOk1_any x.1 x.2.1 x.2.2.1 x.2.2.2.1 x.2.2.2.2.1 x.2.2.2.2.2.2 x.2.2.2.2.2.1 J n wr q;have K : Hid (xs[k]? = some x) := G;clear G q;cases p : msgB x
   ·have B : Hid (badI xs = k) := bad_at K.out p l;have m : Hid (Calls Tryz.prog 209 #[.agg #[nI x.1, nI x.2.1, nI x.2.2.1, nI x.2.2.2.1, nI x.2.2.2.2.1, sL J x.2.2.2.2.2.1.length n, nI x.2.2.2.2.2.2]] wr fun e w' => e = .returned (.bool true) ∧ Bl wr w') := by rw [show msgB (x.1, x.2.1, x.2.2.1, x.2.2.2.1, x.2.2.2.2.1, x.2.2.2.2.2.1, x.2.2.2.2.2.2) = msgB x from rfl, p] at o; exact o
    clear o;go_wp2_with fail
    refine m.out.mono ?_;rintro e N ⟨rfl, r⟩;replace g := below_step g r;clear r z F I H A y s;go_wp2;go_ret
    exact ⟨ret_int B.out.symm, g⟩
   ·have m : Hid (Calls Tryz.prog 209 #[.agg #[nI x.1, nI x.2.1, nI x.2.2.1, nI x.2.2.2.1, nI x.2.2.2.2.1, sL J x.2.2.2.2.2.1.length n, nI x.2.2.2.2.2.2]] wr fun e w' => e = .returned (.bool false) ∧ Bl wr w') := by rw [show msgB (x.1, x.2.1, x.2.2.1, x.2.2.2.1, x.2.2.2.2.1, x.2.2.2.2.2.1, x.2.2.2.2.2.2) = msgB x from rfl, p] at o; exact o
    clear o;go_wp2_with fail
    refine m.out.mono ?_;rintro e N ⟨rfl, r⟩;replace g := below_step g r;clear r z F I H A y s;go_wp2;go_roundw
    case rel =>
     refine ⟨k + 1, by omega, by go_num, fun j v hj hv => ?_, g⟩;by_cases S : j < k
     ·exact l j v S hv
     ·have : j = k := by omega
      subst this;rw [K.out] at hv;cases hv;exact p
    case measure => simp [intOf]; omega
  ·have B : Hid (badI xs = -1) := bad_no fun j v hv => l j v (by have := (List.getElem?_eq_some_iff.1 hv).1; omega) hv;go_wp2;go_ret
   exact ⟨ret_int B.out.symm, g⟩
theorem containsBad_any (a : Option Addr) (xs : List MsgD) (cap : Nat) (w : World) (h : SlRd msgR w a xs) (hm : xs.length ≤ maxLen) :
    Calls Tryz.prog 208 #[sL a xs.length cap, .func (.func 209) #[] #[]] w fun e w' => e = .returned (.bool (!xs.all msgB)) ∧ Bl w w' := by
 have f := indexBad_any a xs cap w h hm;have b := all_bad xs;clear h hm;generalize badI xs = q at f b;generalize xs.all msgB = y at b ⊢;subst b;by_cases g : q < 0
 ·have c : ¬ (0 ≤ q) := by omega
  go_enter Tryz.func208, Tryz.ntmps208;go_wp2_with fail
  refine f.mono ?_;rintro e i ⟨rfl, d⟩;go_wp2;go_ret
  exact ⟨by simp [g], d⟩
 ·have c : 0 ≤ q := by omega
  go_enter Tryz.func208, Tryz.ntmps208;go_wp2_with fail
  refine f.mono ?_;rintro e i ⟨rfl, d⟩;go_wp2;go_ret
  exact ⟨by simp [g], d⟩
theorem implNetOk_any (a : Option Addr) (xs : List MsgD) (cap : Nat) (w : World) (h : SlRd msgR w a xs) (hm : xs.length ≤ maxLen) :
    Calls Tryz.prog 151 #[sL a xs.length cap] w fun e w' => e = .returned (.bool (netB xs)) ∧ Bl w w' := by
 have c := containsBad_any a xs cap w h hm;have g : xs.length ≤ 9223372036854775807 := hm;unfold netB;generalize xs.all msgB = y at c ⊢;clear h hm;by_cases d : xs.length ≤ 60
 ·have b : (xs.length : Int) ≤ 60 := by omega
  go_enter Tryz.func151, Tryz.ntmps151;go_wp2_with fail
  refine c.mono ?_;rintro e w1 ⟨rfl, f⟩;go_wp2;go_ret
  exact ⟨by simp [d], f⟩
 ·have b : ¬ ((xs.length : Int) ≤ 60) := by omega
  go_enter Tryz.func151, Tryz.ntmps151;go_wp2;go_ret
  exact ⟨by simp, Below.refl _ _⟩
theorem specNetOk_any (a : Option Addr) (xs : List MsgD) (cap : Nat) (w : World) (h : SlRd msgR w a xs) (hm : xs.length ≤ maxLen) :
    Calls Tryz.prog 70 #[sL a xs.length cap] w fun e w' => e = .returned (.bool (netB xs)) ∧ Bl w w' := by
 have S : xs.length ≤ 9223372036854775807 := hm;have T : Hid (∀ W, Bl w W → SlRd msgR W a xs) := fun W p => slrd_keep h fun k N => p.block k N;clear h hm;by_cases L : xs.length ≤ 60
 ·have H : ¬ ((60 : Int) < (xs.length : Int)) := by omega
  go_enter Tryz.func70, Tryz.ntmps70;go_wp2;go_loopw [3] (fun i wr => ∃ k : Nat, k ≤ xs.length ∧ i = nI k ∧ (∀ j v, j < k → xs[j]? = some v → msgB v = true) ∧ Bl w wr) (fun i _ => xs.length - (intOf i).toNat)
  case atStart => exact ⟨0, Nat.zero_le _, rfl, fun j v hj => by omega, Below.refl _ _⟩
  case round =>
   obtain ⟨k, N, rfl, l, g⟩ := hrel;by_cases D : k < xs.length
   ·have O : (k : Int) < (xs.length : Int) := by omega
    obtain ⟨x, F⟩ : ∃ x, xs[k]? = some x := ⟨_, List.getElem?_eq_getElem D⟩;obtain ⟨b, d, cs, rfl, f, c⟩ := slrd_at (T.out _ g) F;obtain ⟨J, n, rfl, -, -, -, -, -, -, B, C, q⟩ := msg_rd f;have K := c 0 _ rfl;have E := c 1 _ rfl;have I := c 2 _ rfl;have G := c 3 _ rfl;have A := c 4 _ rfl;have z := c 5 _ rfl;have y := c 6 _ rfl;rw [show d + (k * msgR.size + 0) = d + k * 7 from rfl] at K;rw [show d + (k * msgR.size + 1) = d + k * 7 + 1 from rfl] at E;rw [show d + (k * msgR.size + 2) = d + k * 7 + 2 from rfl] at I;rw [show d + (k * msgR.size + 3) = d + k * 7 + 3 from rfl] at G;rw [show d + (k * msgR.size + 4) = d + k * 7 + 4 from rfl] at A;rw [show d + (k * msgR.size + 5) = d + k * 7 + 5 from rfl] at z;rw [show d + (k * msgR.size + 6) = d + k * 7 + 6 from rfl] at y;clear c f B C;have o := specMsg_any x.1 x.2.1 x.2.2.1 x.2.2.2.1 x.2.2.2.2.1 x.2.2.2.2.2.2 x.2.2.2.2.2.1 J n wr q;have M : Hid (xs[k]? = some x) := F;clear F q;cases p : msgB x
    ·have r : Hid (netB xs = false) := by
       unfold Hid netB;rw [all_bad, bad_at M.out p l];simp
     have m : Hid (Calls Tryz.prog 132 #[.agg #[nI x.1, nI x.2.1, nI x.2.2.1, nI x.2.2.2.1, nI x.2.2.2.2.1, sL J x.2.2.2.2.2.1.length n, nI x.2.2.2.2.2.2]] wr fun e w' => e = .returned (.bool false) ∧ Bl wr w') := by rw [show msgB (x.1, x.2.1, x.2.2.1, x.2.2.2.1, x.2.2.2.2.1, x.2.2.2.2.2.1, x.2.2.2.2.2.2) = msgB x from rfl, p] at o; exact o
     clear o;go_wp2_with fail
     refine m.out.mono ?_;rintro e R ⟨rfl, s⟩;replace g := below_step g s;clear s K E I G A z y;go_wp2;go_ret
     exact ⟨ret_bool r.out.symm, g⟩
    ·have m : Hid (Calls Tryz.prog 132 #[.agg #[nI x.1, nI x.2.1, nI x.2.2.1, nI x.2.2.2.1, nI x.2.2.2.2.1, sL J x.2.2.2.2.2.1.length n, nI x.2.2.2.2.2.2]] wr fun e w' => e = .returned (.bool true) ∧ Bl wr w') := by rw [show msgB (x.1, x.2.1, x.2.2.1, x.2.2.2.1, x.2.2.2.2.1, x.2.2.2.2.2.1, x.2.2.2.2.2.2) = msgB x from rfl, p] at o; exact o
     clear o;go_wp2_with fail
     refine m.out.mono ?_;rintro e R ⟨rfl, s⟩;replace g := below_step g s;clear s K E I G A z y;go_wp2;go_roundw
     case rel =>
      refine ⟨k + 1, by omega, by go_num, fun j v hj hv => ?_, g⟩;by_cases U : j < k
      ·exact l j v U hv
      ·have : j = k := by omega
       subst this;rw [M.out] at hv;cases hv;exact p
     case measure => simp [intOf]; omega
   ·have r : Hid (netB xs = true) := by
      unfold Hid netB;rw [all_bad, bad_no fun j v hv => l j v (by have := (List.getElem?_eq_some_iff.1 hv).1; omega) hv];simp [L]
    go_wp2;go_ret
    exact ⟨ret_bool r.out.symm, g⟩
 ·have r : Hid (netB xs = false) := by unfold Hid netB; simp [L]
  have H : (60 : Int) < (xs.length : Int) := by omega
  go_enter Tryz.func70, Tryz.ntmps70;go_wp2;go_ret
  exact ⟨ret_bool r.out.symm, Below.refl _ _⟩
end Go.Proofs.YtdamokokcdcedaaGreatDoor
