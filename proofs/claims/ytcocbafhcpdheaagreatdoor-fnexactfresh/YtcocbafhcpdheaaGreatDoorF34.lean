import Derived.Test.YtcocbafhcpdheaaGreatDoorF00Box
import Derived.Test.YtcocbafhcpdheaaGreatDoorF13
namespace Go.Proofs.YtcocbafhcpdheaaGreatDoor
set_option maxHeartbeats 4000000
open Go.ChangeShapes Go.WideShapes Go.ChangeAt Go.RowKit
set_option linter.unusedVariables false
def endsB (r f t : Int) : Bool := betw r 0 2 && (betw f 0 5 && betw t 0 5)
def dataB (d : List Int) : Bool := d.isEmpty || isL d
def msgB (u : MsgD) : Bool := endsB u.1 u.2.1 u.2.2.1 && (betw u.2.2.2.1 1 15 && (betw u.2.2.2.2.1 0 15 && (dataB u.2.2.2.2.2.1 && betw u.2.2.2.2.2.2 0 15)))
theorem data_nil {d : List Int} (h : d.length = 0) : dataB d = true := by
 have : d = [] := List.eq_nil_of_length_eq_zero h;subst this;rfl
theorem data_line {d : List Int} (h : ¬ d.length = 0) : dataB d = isL d := by
 cases d with
 | nil => exact (h rfl).elim
 | cons x r => rfl
theorem mb {r f t k l g : Int} {d : List Int} : msgB (r, f, t, k, l, d, g) = (endsB r f t && (betw k 1 15 && (betw l 0 15 && (dataB d && betw g 0 15)))) := rfl
theorem lineNo_any (k : Int) (w : World) : Calls Tryz.prog 229 #[.int .i64 k] w fun e w' => e = .returned (.bool (betw k 0 15)) ∧ w' = w := by
 go_enter Tryz.func229, Tryz.ntmps229;go_wp2_with (go_at_call 76; refine (between_any _ _ _ _).mono ?_; rintro e w' ⟨rfl, rfl⟩)
 go_ret
 exact ⟨rfl, rfl⟩
theorem implEnds_any (f0 f1 f2 f3 f4 f6 : Int) (d : List Int) (a : Option Addr) (cap : Nat) (w : World) :
    Calls Tryz.prog 228 #[.agg #[.int .i64 f0, .int .i64 f1, .int .i64 f2, .int .i64 f3, .int .i64 f4, .slice a d.length cap, .int .i64 f6]] w fun e w' => e = .returned (.bool (endsB f0 f1 f2)) ∧ Below w.heap.size w w' := by
 have HB : Hid _ := box_below w;unfold endsB;cases h1 : betw f0 0 2
 ·go_enter Tryz.func228, Tryz.ntmps228;go_wp2_with (go_at_call 76; refine (between_any _ _ _ _).mono ?_; rintro e w' ⟨rfl, rfl⟩)
  go_ret
  exact ⟨rfl, HB.out _⟩
 ·cases h2 : betw f1 0 5
  ·go_enter Tryz.func228, Tryz.ntmps228;go_wp2_with (go_at_call 76; refine (between_any _ _ _ _).mono ?_; rintro e w' ⟨rfl, rfl⟩)
   go_ret
   exact ⟨rfl, HB.out _⟩
  ·go_enter Tryz.func228, Tryz.ntmps228;go_wp2_with (go_at_call 76; refine (between_any _ _ _ _).mono ?_; rintro e w' ⟨rfl, rfl⟩)
   go_ret
   exact ⟨rfl, HB.out _⟩
theorem implMsgOk_any (f0 f1 f2 f3 f4 f6 : Int) (d : List Int) (a : Option Addr) (cap : Nat) (w : World) (h : SlRd intR w a d) :
    Calls Tryz.prog 188 #[.agg #[.int .i64 f0, .int .i64 f1, .int .i64 f2, .int .i64 f3, .int .i64 f4, .slice a d.length cap, .int .i64 f6]] w fun e w' => e = .returned (.bool (msgB (f0, f1, f2, f3, f4, d, f6))) ∧ Below w.heap.size w w' := by
 have HE : Hid (∀ W, Calls Tryz.prog 228 #[.agg #[.int .i64 f0, .int .i64 f1, .int .i64 f2, .int .i64 f3, .int .i64 f4, .slice a d.length cap, .int .i64 f6]] W fun e w' => e = .returned (.bool (endsB f0 f1 f2)) ∧ Below W.heap.size W w') := fun W => implEnds_any f0 f1 f2 f3 f4 f6 d a cap W;have HL : Hid (∀ W, Below w.heap.size w W → Calls Tryz.prog 224 #[.slice a d.length cap] W fun e w' => e = .returned (.bool (isL d)) ∧ Below W.heap.size W w') := fun W hb => implLineOk_any a d cap W (reads_of (slrd_next h hb));have X := heap_at w (.cells #[.int .i64 f0, .int .i64 f1, .int .i64 f2, .int .i64 f3, .int .i64 f4, .slice a d.length cap, .int .i64 f6] 119);have B := box_below w (.cells #[.int .i64 f0, .int .i64 f1, .int .i64 f2, .int .i64 f3, .int .i64 f4, .slice a d.length cap, .int .i64 f6] 119);clear h;rw [mb];cases h1 : endsB f0 f1 f2
 ·rw [h1] at HE;go_enter Tryz.func188, Tryz.ntmps188;go_wp2_with fail
  generalize w.alloc (.cells #[.int .i64 f0, .int .i64 f1, .int .i64 f2, .int .i64 f3, .int .i64 f4, .slice a d.length cap, .int .i64 f6] 119) = W0 at X B ⊢;refine (HE.out _).mono ?_;rintro e w1 ⟨rfl, b1⟩;replace X := row_keep b1 X;replace B := below_step B b1;clear b1 HE;obtain ⟨x0, x1, x2, x3, x4, x5, x6⟩ := cells_7 X;go_wp2_with (first | (go_at_call 76; refine (between_any _ _ _ _).mono ?_; rintro e w' ⟨rfl, rfl⟩) | (go_at_call 229; refine (lineNo_any _ _).mono ?_; rintro e w' ⟨rfl, rfl⟩))
  go_ret
  exact ⟨rfl, B⟩
 ·rw [h1] at HE;cases h2 : betw f3 1 15
  ·clear HL;go_enter Tryz.func188, Tryz.ntmps188;go_wp2_with fail
   generalize w.alloc (.cells #[.int .i64 f0, .int .i64 f1, .int .i64 f2, .int .i64 f3, .int .i64 f4, .slice a d.length cap, .int .i64 f6] 119) = W0 at X B ⊢;refine (HE.out _).mono ?_;rintro e w1 ⟨rfl, b1⟩;replace X := row_keep b1 X;replace B := below_step B b1;clear b1 HE;obtain ⟨x0, x1, x2, x3, x4, x5, x6⟩ := cells_7 X;go_wp2_with (first | (go_at_call 76; refine (between_any _ _ _ _).mono ?_; rintro e w' ⟨rfl, rfl⟩) | (go_at_call 229; refine (lineNo_any _ _).mono ?_; rintro e w' ⟨rfl, rfl⟩))
   go_ret
   exact ⟨rfl, B⟩
  ·cases h3 : betw f4 0 15
   ·clear HL;go_enter Tryz.func188, Tryz.ntmps188;go_wp2_with fail
    generalize w.alloc (.cells #[.int .i64 f0, .int .i64 f1, .int .i64 f2, .int .i64 f3, .int .i64 f4, .slice a d.length cap, .int .i64 f6] 119) = W0 at X B ⊢;refine (HE.out _).mono ?_;rintro e w1 ⟨rfl, b1⟩;replace X := row_keep b1 X;replace B := below_step B b1;clear b1 HE;obtain ⟨x0, x1, x2, x3, x4, x5, x6⟩ := cells_7 X;go_wp2_with (first | (go_at_call 76; refine (between_any _ _ _ _).mono ?_; rintro e w' ⟨rfl, rfl⟩) | (go_at_call 229; refine (lineNo_any _ _).mono ?_; rintro e w' ⟨rfl, rfl⟩))
    go_ret
    exact ⟨rfl, B⟩
   ·by_cases hz3 : d.length = 0
    ·have HD : Hid (dataB d = true) := data_nil hz3;rw [HD.out];have hz5 : d = [] := List.eq_nil_of_length_eq_zero hz3;clear HL;cases h5 : betw f6 0 15
     ·subst hz5;go_enter Tryz.func188, Tryz.ntmps188;go_wp2_with fail
      generalize w.alloc (.cells #[.int .i64 f0, .int .i64 f1, .int .i64 f2, .int .i64 f3, .int .i64 f4, .slice a ([] : List Int).length cap, .int .i64 f6] 119) = W0 at X B ⊢;refine (HE.out _).mono ?_;rintro e w1 ⟨rfl, b1⟩;replace X := row_keep b1 X;replace B := below_step B b1;clear b1 HE;obtain ⟨x0, x1, x2, x3, x4, x5, x6⟩ := cells_7 X;go_wp2_with (first | (go_at_call 76; refine (between_any _ _ _ _).mono ?_; rintro e w' ⟨rfl, rfl⟩) | (go_at_call 229; refine (lineNo_any _ _).mono ?_; rintro e w' ⟨rfl, rfl⟩))
      go_ret
      exact ⟨rfl, B⟩
     ·subst hz5;go_enter Tryz.func188, Tryz.ntmps188;go_wp2_with fail
      generalize w.alloc (.cells #[.int .i64 f0, .int .i64 f1, .int .i64 f2, .int .i64 f3, .int .i64 f4, .slice a ([] : List Int).length cap, .int .i64 f6] 119) = W0 at X B ⊢;refine (HE.out _).mono ?_;rintro e w1 ⟨rfl, b1⟩;replace X := row_keep b1 X;replace B := below_step B b1;clear b1 HE;obtain ⟨x0, x1, x2, x3, x4, x5, x6⟩ := cells_7 X;go_wp2_with (first | (go_at_call 76; refine (between_any _ _ _ _).mono ?_; rintro e w' ⟨rfl, rfl⟩) | (go_at_call 229; refine (lineNo_any _ _).mono ?_; rintro e w' ⟨rfl, rfl⟩))
      go_ret
      exact ⟨rfl, B⟩
    ·rw [data_line hz3];have hz4 : ¬ (d = []) := fun e => hz3 (by rw [e]; rfl);have hz : ¬ ((d.length : Int) = 0) := by omega
     have hz2 : ((d.length : Int) == 0) = false := beq_false_of_ne hz;cases h4 : isL d
     ·rw [h4] at HL;go_enter Tryz.func188, Tryz.ntmps188;go_wp2_with fail
      generalize w.alloc (.cells #[.int .i64 f0, .int .i64 f1, .int .i64 f2, .int .i64 f3, .int .i64 f4, .slice a d.length cap, .int .i64 f6] 119) = W0 at X B ⊢;refine (HE.out _).mono ?_;rintro e w1 ⟨rfl, b1⟩;replace X := row_keep b1 X;replace B := below_step B b1;clear b1 HE;obtain ⟨x0, x1, x2, x3, x4, x5, x6⟩ := cells_7 X;go_wp2_with (first | (go_at_call 76; refine (between_any _ _ _ _).mono ?_; rintro e w' ⟨rfl, rfl⟩) | (go_at_call 229; refine (lineNo_any _ _).mono ?_; rintro e w' ⟨rfl, rfl⟩) | (go_at_call 224; refine (HL.out _ B).mono ?_; rintro e w2 ⟨rfl, hb⟩; replace X := row_keep hb X; replace B := below_step B hb; clear hb x0 x1 x2 x3 x4 x5 x6; obtain ⟨x0, x1, x2, x3, x4, x5, x6⟩ := cells_7 X))
      go_ret
      exact ⟨rfl, B⟩
     ·rw [h4] at HL;cases h5 : betw f6 0 15
      ·skip
       go_enter Tryz.func188, Tryz.ntmps188;go_wp2_with fail
       generalize w.alloc (.cells #[.int .i64 f0, .int .i64 f1, .int .i64 f2, .int .i64 f3, .int .i64 f4, .slice a d.length cap, .int .i64 f6] 119) = W0 at X B ⊢;refine (HE.out _).mono ?_;rintro e w1 ⟨rfl, b1⟩;replace X := row_keep b1 X;replace B := below_step B b1;clear b1 HE;obtain ⟨x0, x1, x2, x3, x4, x5, x6⟩ := cells_7 X;go_wp2_with (first | (go_at_call 76; refine (between_any _ _ _ _).mono ?_; rintro e w' ⟨rfl, rfl⟩) | (go_at_call 229; refine (lineNo_any _ _).mono ?_; rintro e w' ⟨rfl, rfl⟩) | (go_at_call 224; refine (HL.out _ B).mono ?_; rintro e w2 ⟨rfl, hb⟩; replace X := row_keep hb X; replace B := below_step B hb; clear hb x0 x1 x2 x3 x4 x5 x6; obtain ⟨x0, x1, x2, x3, x4, x5, x6⟩ := cells_7 X))
       go_ret
       exact ⟨rfl, B⟩
      ·skip
       go_enter Tryz.func188, Tryz.ntmps188;go_wp2_with fail
       generalize w.alloc (.cells #[.int .i64 f0, .int .i64 f1, .int .i64 f2, .int .i64 f3, .int .i64 f4, .slice a d.length cap, .int .i64 f6] 119) = W0 at X B ⊢;refine (HE.out _).mono ?_;rintro e w1 ⟨rfl, b1⟩;replace X := row_keep b1 X;replace B := below_step B b1;clear b1 HE;obtain ⟨x0, x1, x2, x3, x4, x5, x6⟩ := cells_7 X;go_wp2_with (first | (go_at_call 76; refine (between_any _ _ _ _).mono ?_; rintro e w' ⟨rfl, rfl⟩) | (go_at_call 229; refine (lineNo_any _ _).mono ?_; rintro e w' ⟨rfl, rfl⟩) | (go_at_call 224; refine (HL.out _ B).mono ?_; rintro e w2 ⟨rfl, hb⟩; replace X := row_keep hb X; replace B := below_step B hb; clear hb x0 x1 x2 x3 x4 x5 x6; obtain ⟨x0, x1, x2, x3, x4, x5, x6⟩ := cells_7 X))
       go_ret
       exact ⟨rfl, B⟩
theorem specMsg_any (f0 f1 f2 f3 f4 f6 : Int) (d : List Int) (a : Option Addr) (cap : Nat) (w : World) (h : SlRd intR w a d) :
    Calls Tryz.prog 145 #[.agg #[.int .i64 f0, .int .i64 f1, .int .i64 f2, .int .i64 f3, .int .i64 f4, .slice a d.length cap, .int .i64 f6]] w fun e w' => e = .returned (.bool (msgB (f0, f1, f2, f3, f4, d, f6))) ∧ Below w.heap.size w w' := by
 have HL : Hid (∀ W, Below w.heap.size w W → Calls Tryz.prog 144 #[.slice a d.length cap] W fun e w' => e = .returned (.bool (isL d)) ∧ w' = W) := fun W hb => specLineOk_any a d cap W (reads_of (slrd_next h hb));have B := box_below w (.cells #[.int .i64 f0, .int .i64 f1, .int .i64 f2, .int .i64 f3, .int .i64 f4, .slice a d.length cap, .int .i64 f6] 119);clear h;cases h1 : betw f0 0 2
 ·clear HL;have HV : Hid (msgB (f0, f1, f2, f3, f4, d, f6) = false) := by unfold Hid; rw [mb]; unfold endsB; simp [h1]
  go_enter Tryz.func145, Tryz.ntmps145;go_wp2_with (first | (go_at_call 98; refine (l1In_any _ _ _ _).mono ?_; rintro e w' ⟨rfl, rfl⟩))
  go_ret
  exact ⟨ret_bool HV.out.symm, B⟩
 ·cases h2 : betw f1 0 5
  ·clear HL;have HV : Hid (msgB (f0, f1, f2, f3, f4, d, f6) = false) := by unfold Hid; rw [mb]; unfold endsB; simp [h2]
   go_enter Tryz.func145, Tryz.ntmps145;go_wp2_with (first | (go_at_call 98; refine (l1In_any _ _ _ _).mono ?_; rintro e w' ⟨rfl, rfl⟩))
   go_ret
   exact ⟨ret_bool HV.out.symm, B⟩
  ·cases h3 : betw f2 0 5
   ·clear HL;have HV : Hid (msgB (f0, f1, f2, f3, f4, d, f6) = false) := by unfold Hid; rw [mb]; unfold endsB; simp [h3]
    go_enter Tryz.func145, Tryz.ntmps145;go_wp2_with (first | (go_at_call 98; refine (l1In_any _ _ _ _).mono ?_; rintro e w' ⟨rfl, rfl⟩))
    go_ret
    exact ⟨ret_bool HV.out.symm, B⟩
   ·cases h4 : betw f4 0 15
    ·clear HL;have HV : Hid (msgB (f0, f1, f2, f3, f4, d, f6) = false) := by unfold Hid; rw [mb]; unfold endsB; simp [h4]
     go_enter Tryz.func145, Tryz.ntmps145;go_wp2_with (first | (go_at_call 98; refine (l1In_any _ _ _ _).mono ?_; rintro e w' ⟨rfl, rfl⟩))
     go_ret
     exact ⟨ret_bool HV.out.symm, B⟩
    ·by_cases hz3 : d.length = 0
     ·have HD : Hid (dataB d = true) := data_nil hz3;have hz5 : d = [] := List.eq_nil_of_length_eq_zero hz3;clear HL;subst hz5;cases h5 : betw f3 1 15
      ·skip
       have HV : Hid (msgB (f0, f1, f2, f3, f4, [], f6) = false) := by unfold Hid; rw [mb]; unfold endsB; simp [h5]
       go_enter Tryz.func145, Tryz.ntmps145;go_wp2_with (first | (go_at_call 98; refine (l1In_any _ _ _ _).mono ?_; rintro e w' ⟨rfl, rfl⟩))
       go_ret
       exact ⟨ret_bool HV.out.symm, B⟩
      ·cases h6 : betw f6 0 15
       ·skip
        have HV : Hid (msgB (f0, f1, f2, f3, f4, [], f6) = false) := by unfold Hid; rw [mb]; unfold endsB; simp [h6]
        go_enter Tryz.func145, Tryz.ntmps145;go_wp2_with (first | (go_at_call 98; refine (l1In_any _ _ _ _).mono ?_; rintro e w' ⟨rfl, rfl⟩))
        go_ret
        exact ⟨ret_bool HV.out.symm, B⟩
       ·skip
        have HV : Hid (msgB (f0, f1, f2, f3, f4, [], f6) = true) := by unfold Hid; rw [mb]; unfold endsB; simp [h1, h2, h3, h4, h5, h6, HD.out]
        go_enter Tryz.func145, Tryz.ntmps145;go_wp2_with (first | (go_at_call 98; refine (l1In_any _ _ _ _).mono ?_; rintro e w' ⟨rfl, rfl⟩))
        go_ret
        exact ⟨ret_bool HV.out.symm, B⟩
     ·have HD : Hid (dataB d = isL d) := data_line hz3;have hz4 : ¬ (d = []) := fun e => hz3 (by rw [e]; rfl);have hz : ¬ ((d.length : Int) = 0) := by omega
      have hz2 : ((d.length : Int) == 0) = false := beq_false_of_ne hz;cases h7 : isL d
      ·rw [h7] at HL;have HV : Hid (msgB (f0, f1, f2, f3, f4, d, f6) = false) := by unfold Hid; rw [mb]; unfold endsB; simp [HD.out, h7]
       go_enter Tryz.func145, Tryz.ntmps145;go_wp2_with (first | (go_at_call 98; refine (l1In_any _ _ _ _).mono ?_; rintro e w' ⟨rfl, rfl⟩) | (go_at_call 144; refine (HL.out _ B).mono ?_; rintro e w' ⟨rfl, rfl⟩))
       go_ret
       exact ⟨ret_bool HV.out.symm, B⟩
      ·rw [h7] at HL;cases h5 : betw f3 1 15
       ·skip
        have HV : Hid (msgB (f0, f1, f2, f3, f4, d, f6) = false) := by unfold Hid; rw [mb]; unfold endsB; simp [h5]
        go_enter Tryz.func145, Tryz.ntmps145;go_wp2_with (first | (go_at_call 98; refine (l1In_any _ _ _ _).mono ?_; rintro e w' ⟨rfl, rfl⟩) | (go_at_call 144; refine (HL.out _ B).mono ?_; rintro e w' ⟨rfl, rfl⟩))
        go_ret
        exact ⟨ret_bool HV.out.symm, B⟩
       ·cases h6 : betw f6 0 15
        ·skip
         have HV : Hid (msgB (f0, f1, f2, f3, f4, d, f6) = false) := by unfold Hid; rw [mb]; unfold endsB; simp [h6]
         go_enter Tryz.func145, Tryz.ntmps145;go_wp2_with (first | (go_at_call 98; refine (l1In_any _ _ _ _).mono ?_; rintro e w' ⟨rfl, rfl⟩) | (go_at_call 144; refine (HL.out _ B).mono ?_; rintro e w' ⟨rfl, rfl⟩))
         go_ret
         exact ⟨ret_bool HV.out.symm, B⟩
        ·skip
         have HV : Hid (msgB (f0, f1, f2, f3, f4, d, f6) = true) := by unfold Hid; rw [mb]; unfold endsB; simp [h1, h2, h3, h4, h5, h6, HD.out, h7]
         go_enter Tryz.func145, Tryz.ntmps145;go_wp2_with (first | (go_at_call 98; refine (l1In_any _ _ _ _).mono ?_; rintro e w' ⟨rfl, rfl⟩) | (go_at_call 144; refine (HL.out _ B).mono ?_; rintro e w' ⟨rfl, rfl⟩))
         go_ret
         exact ⟨ret_bool HV.out.symm, B⟩
def netB (xs : List MsgD) : Bool := decide (xs.length ≤ 60) && xs.all msgB
def badI (xs : List MsgD) : Int := match xs.findIdx? (fun u => !msgB u) with
 | some i => (i : Int)
 | none => -1
theorem bad_at {xs : List MsgD} {k : Nat} {u : MsgD} (hu : xs[k]? = some u) (hp : msgB u = false) (hno : ∀ j v, j < k → xs[j]? = some v → msgB v = true) : badI xs = (k : Int) := by
 have hk := (List.getElem?_eq_some_iff.1 hu).1;have : xs.findIdx? (fun u => !msgB u) = some k := by
  rw [List.findIdx?_eq_some_iff_getElem];refine ⟨hk, ?_, fun j hj => ?_⟩
  ·rw [List.getElem?_eq_getElem hk] at hu;cases hu;simp [hp]
  ·have := hno j _ hj (List.getElem?_eq_getElem (by omega));simp [this]
 unfold badI;rw [this]
theorem bad_no {xs : List MsgD} (hno : ∀ (j : Nat) (v : MsgD), xs[j]? = some v → msgB v = true) : badI xs = -1 := by
 have : xs.findIdx? (fun u => !msgB u) = none := by
  rw [List.findIdx?_eq_none_iff];intro u hu;obtain ⟨j, hj⟩ := List.getElem?_of_mem hu;simp [hno j u hj]
 unfold badI;rw [this]
theorem all_bad (xs : List MsgD) : xs.all msgB = decide (badI xs < 0) := by
 cases h : xs.all msgB
 ·have h1 : ¬ ∀ x ∈ xs, msgB x = true := fun hh => by rw [List.all_eq_true.2 hh] at h; cases h
  cases hf : xs.findIdx? (fun u => !msgB u) with
  | none =>
   rw [List.findIdx?_eq_none_iff] at hf;exact (h1 fun x hx => by have := hf x hx; simpa using this).elim
  | some i => simp [badI, hf]
 ·rw [bad_no fun j v hv => List.all_eq_true.1 h v (List.mem_of_getElem? hv)];rfl
theorem netOk1_any (f0 f1 f2 f3 f4 f6 : Int) (d : List Int) (a : Option Addr) (cap : Nat) (w : World) (h : SlRd intR w a d) :
    Calls Tryz.prog 187 #[.agg #[.int .i64 f0, .int .i64 f1, .int .i64 f2, .int .i64 f3, .int .i64 f4, .slice a d.length cap, .int .i64 f6]] w fun e w' => e = .returned (.bool (!msgB (f0, f1, f2, f3, f4, d, f6))) ∧ Below w.heap.size w w' := by
 have B := box_below w (.cells #[.int .i64 f0, .int .i64 f1, .int .i64 f2, .int .i64 f3, .int .i64 f4, .slice a d.length cap, .int .i64 f6] 119);have HM : Hid (∀ W, Below w.heap.size w W → Calls Tryz.prog 188 #[.agg #[.int .i64 f0, .int .i64 f1, .int .i64 f2, .int .i64 f3, .int .i64 f4, .slice a d.length cap, .int .i64 f6]] W fun e w' => e = .returned (.bool (msgB (f0, f1, f2, f3, f4, d, f6))) ∧ Below W.heap.size W w') := fun W hb => implMsgOk_any f0 f1 f2 f3 f4 f6 d a cap W (slrd_next h hb);generalize msgB (f0, f1, f2, f3, f4, d, f6) = q at HM ⊢;clear h;go_enter Tryz.func187, Tryz.ntmps187;go_wp2_with fail
 generalize w.alloc (.cells #[.int .i64 f0, .int .i64 f1, .int .i64 f2, .int .i64 f3, .int .i64 f4, .slice a d.length cap, .int .i64 f6] 119) = W0 at B ⊢;refine (HM.out _ B).mono ?_;rintro e w1 ⟨rfl, b1⟩;go_wp2;go_ret
 exact ⟨rfl, below_step B b1⟩
theorem indexBad_any (a : Option Addr) (xs : List MsgD) (cap : Nat) (w : World) (h : SlRd msgR w a xs) (hm : xs.length ≤ maxLen) :
    Calls Tryz.prog 227 #[.slice a xs.length cap, .func (.func 187) #[] #[]] w fun e w' => e = .returned (.int .i64 (badI xs)) ∧ Below w.heap.size w w' := by
 have hm' : xs.length ≤ 9223372036854775807 := hm;have H0 : Hid (∀ W, Below w.heap.size w W → SlRd msgR W a xs) := fun W hb => slrd_keep h fun k hk => hb.block k hk;clear h hm;go_enter Tryz.func227, Tryz.ntmps227;go_wp2;go_loopw [8] (fun i wr => ∃ k : Nat, k ≤ xs.length ∧ i = .int .i64 k ∧ (∀ j v, j < k → xs[j]? = some v → msgB v = true) ∧ Below w.heap.size w wr) (fun i _ => xs.length - (intOf i).toNat)
 case atStart => exact ⟨0, Nat.zero_le _, rfl, fun j v hj => by omega, Below.refl _ _⟩
 case round =>
  obtain ⟨k, hk, rfl, hno, BB⟩ := hrel;by_cases hlt : k < xs.length
  ·have hlt' : (k : Int) < (xs.length : Int) := by omega
   obtain ⟨x, hx⟩ : ∃ x, xs[k]? = some x := ⟨_, List.getElem?_eq_getElem hlt⟩;obtain ⟨b, off, cs, rfl, hrdx, hcell⟩ := slrd_at (H0.out _ BB) hx;obtain ⟨ad, cpw, rfl, -, -, -, -, -, -, hd1, hd2, hd3⟩ := msg_rd hrdx;have x0 := hcell 0 _ rfl;have x1 := hcell 1 _ rfl;have x2 := hcell 2 _ rfl;have x3 := hcell 3 _ rfl;have x4 := hcell 4 _ rfl;have x5 := hcell 5 _ rfl;have x6 := hcell 6 _ rfl;rw [show off + (k * msgR.size + 0) = off + k * 7 from rfl] at x0;rw [show off + (k * msgR.size + 1) = off + k * 7 + 1 from rfl] at x1;rw [show off + (k * msgR.size + 2) = off + k * 7 + 2 from rfl] at x2;rw [show off + (k * msgR.size + 3) = off + k * 7 + 3 from rfl] at x3;rw [show off + (k * msgR.size + 4) = off + k * 7 + 4 from rfl] at x4;rw [show off + (k * msgR.size + 5) = off + k * 7 + 5 from rfl] at x5;rw [show off + (k * msgR.size + 6) = off + k * 7 + 6 from rfl] at x6;clear hcell hrdx hd1 hd2;have HC := netOk1_any x.1 x.2.1 x.2.2.1 x.2.2.2.1 x.2.2.2.2.1 x.2.2.2.2.2.2 x.2.2.2.2.2.1 ad cpw wr hd3;have HX : Hid (xs[k]? = some x) := hx;clear hx hd3;cases hb : msgB x
   ·have HR : Hid (badI xs = k) := bad_at HX.out hb hno;have HC2 : Hid (Calls Tryz.prog 187 #[.agg #[.int .i64 x.1, .int .i64 x.2.1, .int .i64 x.2.2.1, .int .i64 x.2.2.2.1, .int .i64 x.2.2.2.2.1, .slice ad x.2.2.2.2.2.1.length cpw, .int .i64 x.2.2.2.2.2.2]] wr fun e w' => e = .returned (.bool true) ∧ Below wr.heap.size wr w') := by rw [show msgB (x.1, x.2.1, x.2.2.1, x.2.2.2.1, x.2.2.2.2.1, x.2.2.2.2.2.1, x.2.2.2.2.2.2) = msgB x from rfl, hb] at HC; exact HC
    clear HC;go_wp2_with fail
    refine HC2.out.mono ?_;rintro e w2 ⟨rfl, b2⟩;replace BB := below_step BB b2;clear b2 x0 x1 x2 x3 x4 x5 x6;go_wp2;go_ret
    exact ⟨ret_int HR.out.symm, BB⟩
   ·have HC2 : Hid (Calls Tryz.prog 187 #[.agg #[.int .i64 x.1, .int .i64 x.2.1, .int .i64 x.2.2.1, .int .i64 x.2.2.2.1, .int .i64 x.2.2.2.2.1, .slice ad x.2.2.2.2.2.1.length cpw, .int .i64 x.2.2.2.2.2.2]] wr fun e w' => e = .returned (.bool false) ∧ Below wr.heap.size wr w') := by rw [show msgB (x.1, x.2.1, x.2.2.1, x.2.2.2.1, x.2.2.2.2.1, x.2.2.2.2.2.1, x.2.2.2.2.2.2) = msgB x from rfl, hb] at HC; exact HC
    clear HC;go_wp2_with fail
    refine HC2.out.mono ?_;rintro e w2 ⟨rfl, b2⟩;replace BB := below_step BB b2;clear b2 x0 x1 x2 x3 x4 x5 x6;go_wp2;go_roundw
    case rel =>
     refine ⟨k + 1, by omega, by go_num, fun j v hj hv => ?_, BB⟩;by_cases he : j < k
     ·exact hno j v he hv
     ·have : j = k := by omega
      subst this;rw [HX.out] at hv;cases hv;exact hb
    case measure => simp [intOf]; omega
  ·have HR : Hid (badI xs = -1) := bad_no fun j v hv => hno j v (by have := (List.getElem?_eq_some_iff.1 hv).1; omega) hv;go_wp2;go_ret
   exact ⟨ret_int HR.out.symm, BB⟩
theorem containsBad_any (a : Option Addr) (xs : List MsgD) (cap : Nat) (w : World) (h : SlRd msgR w a xs) (hm : xs.length ≤ maxLen) :
    Calls Tryz.prog 186 #[.slice a xs.length cap, .func (.func 187) #[] #[]] w fun e w' => e = .returned (.bool (!xs.all msgB)) ∧ Below w.heap.size w w' := by
 have HI := indexBad_any a xs cap w h hm;have hab := all_bad xs;clear h hm;generalize badI xs = q at HI hab;generalize xs.all msgB = y at hab ⊢;subst hab;by_cases hq : q < 0
 ·have hq2 : ¬ (0 ≤ q) := by omega
  go_enter Tryz.func186, Tryz.ntmps186;go_wp2_with fail
  refine HI.mono ?_;rintro e w1 ⟨rfl, b1⟩;go_wp2;go_ret
  exact ⟨by simp [hq], b1⟩
 ·have hq2 : 0 ≤ q := by omega
  go_enter Tryz.func186, Tryz.ntmps186;go_wp2_with fail
  refine HI.mono ?_;rintro e w1 ⟨rfl, b1⟩;go_wp2;go_ret
  exact ⟨by simp [hq], b1⟩
theorem implNetOk_any (a : Option Addr) (xs : List MsgD) (cap : Nat) (w : World) (h : SlRd msgR w a xs) (hm : xs.length ≤ maxLen) :
    Calls Tryz.prog 127 #[.slice a xs.length cap] w fun e w' => e = .returned (.bool (netB xs)) ∧ Below w.heap.size w w' := by
 have HC := containsBad_any a xs cap w h hm;have hm' : xs.length ≤ 9223372036854775807 := hm;unfold netB;generalize xs.all msgB = y at HC ⊢;clear h hm;by_cases hl : xs.length ≤ 60
 ·have hl' : (xs.length : Int) ≤ 60 := by omega
  go_enter Tryz.func127, Tryz.ntmps127;go_wp2_with fail
  refine HC.mono ?_;rintro e w1 ⟨rfl, b1⟩;go_wp2;go_ret
  exact ⟨by simp [hl], b1⟩
 ·have hl' : ¬ ((xs.length : Int) ≤ 60) := by omega
  go_enter Tryz.func127, Tryz.ntmps127;go_wp2;go_ret
  exact ⟨by simp, Below.refl _ _⟩
theorem specNetOk_any (a : Option Addr) (xs : List MsgD) (cap : Nat) (w : World) (h : SlRd msgR w a xs) (hm : xs.length ≤ maxLen) :
    Calls Tryz.prog 93 #[.slice a xs.length cap] w fun e w' => e = .returned (.bool (netB xs)) ∧ Below w.heap.size w w' := by
 have hm' : xs.length ≤ 9223372036854775807 := hm;have H0 : Hid (∀ W, Below w.heap.size w W → SlRd msgR W a xs) := fun W hb => slrd_keep h fun k hk => hb.block k hk;clear h hm;by_cases hl : xs.length ≤ 60
 ·have hl' : ¬ ((60 : Int) < (xs.length : Int)) := by omega
  go_enter Tryz.func93, Tryz.ntmps93;go_wp2;go_loopw [3] (fun i wr => ∃ k : Nat, k ≤ xs.length ∧ i = .int .i64 k ∧ (∀ j v, j < k → xs[j]? = some v → msgB v = true) ∧ Below w.heap.size w wr) (fun i _ => xs.length - (intOf i).toNat)
  case atStart => exact ⟨0, Nat.zero_le _, rfl, fun j v hj => by omega, Below.refl _ _⟩
  case round =>
   obtain ⟨k, hk, rfl, hno, BB⟩ := hrel;by_cases hlt : k < xs.length
   ·have hlt' : (k : Int) < (xs.length : Int) := by omega
    obtain ⟨x, hx⟩ : ∃ x, xs[k]? = some x := ⟨_, List.getElem?_eq_getElem hlt⟩;obtain ⟨b, off, cs, rfl, hrdx, hcell⟩ := slrd_at (H0.out _ BB) hx;obtain ⟨ad, cpw, rfl, -, -, -, -, -, -, hd1, hd2, hd3⟩ := msg_rd hrdx;have x0 := hcell 0 _ rfl;have x1 := hcell 1 _ rfl;have x2 := hcell 2 _ rfl;have x3 := hcell 3 _ rfl;have x4 := hcell 4 _ rfl;have x5 := hcell 5 _ rfl;have x6 := hcell 6 _ rfl;rw [show off + (k * msgR.size + 0) = off + k * 7 from rfl] at x0;rw [show off + (k * msgR.size + 1) = off + k * 7 + 1 from rfl] at x1;rw [show off + (k * msgR.size + 2) = off + k * 7 + 2 from rfl] at x2;rw [show off + (k * msgR.size + 3) = off + k * 7 + 3 from rfl] at x3;rw [show off + (k * msgR.size + 4) = off + k * 7 + 4 from rfl] at x4;rw [show off + (k * msgR.size + 5) = off + k * 7 + 5 from rfl] at x5;rw [show off + (k * msgR.size + 6) = off + k * 7 + 6 from rfl] at x6;clear hcell hrdx hd1 hd2;have HC := specMsg_any x.1 x.2.1 x.2.2.1 x.2.2.2.1 x.2.2.2.2.1 x.2.2.2.2.2.2 x.2.2.2.2.2.1 ad cpw wr hd3;have HX : Hid (xs[k]? = some x) := hx;clear hx hd3;cases hb : msgB x
    ·have HR : Hid (netB xs = false) := by
       unfold Hid netB;rw [all_bad, bad_at HX.out hb hno];simp
     have HC2 : Hid (Calls Tryz.prog 145 #[.agg #[.int .i64 x.1, .int .i64 x.2.1, .int .i64 x.2.2.1, .int .i64 x.2.2.2.1, .int .i64 x.2.2.2.2.1, .slice ad x.2.2.2.2.2.1.length cpw, .int .i64 x.2.2.2.2.2.2]] wr fun e w' => e = .returned (.bool false) ∧ Below wr.heap.size wr w') := by rw [show msgB (x.1, x.2.1, x.2.2.1, x.2.2.2.1, x.2.2.2.2.1, x.2.2.2.2.2.1, x.2.2.2.2.2.2) = msgB x from rfl, hb] at HC; exact HC
     clear HC;go_wp2_with fail
     refine HC2.out.mono ?_;rintro e w2 ⟨rfl, b2⟩;replace BB := below_step BB b2;clear b2 x0 x1 x2 x3 x4 x5 x6;go_wp2;go_ret
     exact ⟨ret_bool HR.out.symm, BB⟩
    ·have HC2 : Hid (Calls Tryz.prog 145 #[.agg #[.int .i64 x.1, .int .i64 x.2.1, .int .i64 x.2.2.1, .int .i64 x.2.2.2.1, .int .i64 x.2.2.2.2.1, .slice ad x.2.2.2.2.2.1.length cpw, .int .i64 x.2.2.2.2.2.2]] wr fun e w' => e = .returned (.bool true) ∧ Below wr.heap.size wr w') := by rw [show msgB (x.1, x.2.1, x.2.2.1, x.2.2.2.1, x.2.2.2.2.1, x.2.2.2.2.2.1, x.2.2.2.2.2.2) = msgB x from rfl, hb] at HC; exact HC
     clear HC;go_wp2_with fail
     refine HC2.out.mono ?_;rintro e w2 ⟨rfl, b2⟩;replace BB := below_step BB b2;clear b2 x0 x1 x2 x3 x4 x5 x6;go_wp2;go_roundw
     case rel =>
      refine ⟨k + 1, by omega, by go_num, fun j v hj hv => ?_, BB⟩;by_cases he : j < k
      ·exact hno j v he hv
      ·have : j = k := by omega
       subst this;rw [HX.out] at hv;cases hv;exact hb
     case measure => simp [intOf]; omega
   ·have HR : Hid (netB xs = true) := by
      unfold Hid netB;rw [all_bad, bad_no fun j v hv => hno j v (by have := (List.getElem?_eq_some_iff.1 hv).1; omega) hv];simp [hl]
    go_wp2;go_ret
    exact ⟨ret_bool HR.out.symm, BB⟩
 ·have HR : Hid (netB xs = false) := by unfold Hid netB; simp [hl]
  have hl' : (60 : Int) < (xs.length : Int) := by omega
  go_enter Tryz.func93, Tryz.ntmps93;go_wp2;go_ret
  exact ⟨ret_bool HR.out.symm, Below.refl _ _⟩
end Go.Proofs.YtcocbafhcpdheaaGreatDoor
