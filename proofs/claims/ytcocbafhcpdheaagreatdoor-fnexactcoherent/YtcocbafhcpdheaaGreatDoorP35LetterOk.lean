import Derived.Test.YtcocbafhcpdheaaGreatDoorP00Box
import Derived.Test.YtcocbafhcpdheaaGreatDoorP14Lines6
namespace Go.Proofs.YtcocbafhcpdheaaGreatDoor
set_option maxHeartbeats 4000000
open Go.ChangeShapes Go.WideShapes Go.ChangeAt Go.RowKit
set_option linter.unusedVariables false
def endsB (r f t : Int) : Bool := betw r 0 2 && (betw f 0 5 && betw t 0 5)
def dataB (d : List Int) : Bool := d.isEmpty || isL d
def msgB (u : MsgD) : Bool := endsB u.1 u.2.1 u.2.2.1 && (betw u.2.2.2.1 1 15 && (betw u.2.2.2.2.1 0 15 && (dataB u.2.2.2.2.2.1 && betw u.2.2.2.2.2.2 0 15)))
theorem data_nil {d : List Int} (h : d.length = 0) : dataB d = true := by
 have : d = [] := List.eq_nil_of_length_eq_zero h;subst this;rfl
theorem data_line {d : List Int} (h : ¬ d.length = 0) : dataB d = isL d := by
 cases d with
 | nil => exact (h rfl).elim
 | cons x r => rfl
theorem mb {r f t k l g : Int} {d : List Int} : msgB (r, f, t, k, l, d, g) = (endsB r f t && (betw k 1 15 && (betw l 0 15 && (dataB d && betw g 0 15)))) := rfl
theorem lineNo_any (k : Int) (w : World) : Calls Tryz.prog 229 #[.int .i64 k] w fun e w' => e = .returned (.bool (betw k 0 15)) ∧ w' = w := by
 go_enter Tryz.func229, Tryz.ntmps229;go_wp2_with (go_at_call 76; refine (between_any _ _ _ _).mono ?_; rintro e w' ⟨rfl, rfl⟩)
 go_ret
 exact ⟨rfl, rfl⟩
theorem implEnds_any (f0 f1 f2 f3 f4 f6 : Int) (d : List Int) (a : Option Addr) (cap : Nat) (w : World) :
    Calls Tryz.prog 228 #[.agg #[.int .i64 f0, .int .i64 f1, .int .i64 f2, .int .i64 f3, .int .i64 f4, .slice a d.length cap, .int .i64 f6]] w fun e w' => e = .returned (.bool (endsB f0 f1 f2)) ∧ Below w.heap.size w w' := by
 have HB : Hid _ := box_below w;unfold endsB;cases h1 : betw f0 0 2
 ·go_enter Tryz.func228, Tryz.ntmps228;go_wp2_with (go_at_call 76; refine (between_any _ _ _ _).mono ?_; rintro e w' ⟨rfl, rfl⟩)
  go_ret
  exact ⟨rfl, HB.out _⟩
 ·cases h2 : betw f1 0 5
  ·go_enter Tryz.func228, Tryz.ntmps228;go_wp2_with (go_at_call 76; refine (between_any _ _ _ _).mono ?_; rintro e w' ⟨rfl, rfl⟩)
   go_ret
   exact ⟨rfl, HB.out _⟩
  ·go_enter Tryz.func228, Tryz.ntmps228;go_wp2_with (go_at_call 76; refine (between_any _ _ _ _).mono ?_; rintro e w' ⟨rfl, rfl⟩)
   go_ret
   exact ⟨rfl, HB.out _⟩
theorem implMsgOk_any (f0 f1 f2 f3 f4 f6 : Int) (d : List Int) (a : Option Addr) (cap : Nat) (w : World) (h : SlRd intR w a d) :
    Calls Tryz.prog 188 #[.agg #[.int .i64 f0, .int .i64 f1, .int .i64 f2, .int .i64 f3, .int .i64 f4, .slice a d.length cap, .int .i64 f6]] w fun e w' => e = .returned (.bool (msgB (f0, f1, f2, f3, f4, d, f6))) ∧ Below w.heap.size w w' := by
 have HE : Hid (∀ W, Calls Tryz.prog 228 #[.agg #[.int .i64 f0, .int .i64 f1, .int .i64 f2, .int .i64 f3, .int .i64 f4, .slice a d.length cap, .int .i64 f6]] W fun e w' => e = .returned (.bool (endsB f0 f1 f2)) ∧ Below W.heap.size W w') := fun W => implEnds_any f0 f1 f2 f3 f4 f6 d a cap W;have HL : Hid _ := fun (W : World) (hb : Below w.heap.size w W) => implLineOk_any a d cap W (reads_of (slrd_next h hb));have X := heap_at w (.cells #[.int .i64 f0, .int .i64 f1, .int .i64 f2, .int .i64 f3, .int .i64 f4, .slice a d.length cap, .int .i64 f6] 119);have B := box_below w (.cells #[.int .i64 f0, .int .i64 f1, .int .i64 f2, .int .i64 f3, .int .i64 f4, .slice a d.length cap, .int .i64 f6] 119);clear h;rw [mb];cases h1 : endsB f0 f1 f2
 ·rw [h1] at HE;go_enter Tryz.func188, Tryz.ntmps188;go_wp2_with fail
  generalize w.alloc (.cells #[.int .i64 f0, .int .i64 f1, .int .i64 f2, .int .i64 f3, .int .i64 f4, .slice a d.length cap, .int .i64 f6] 119) = W0 at X B ⊢;refine (HE.out _).mono ?_;rintro e w1 ⟨rfl, b1⟩;replace X := row_keep b1 X;replace B := below_step B b1;clear b1 HE;obtain ⟨x0, x1, x2, x3, x4, x5, x6⟩ := cells_7 X;go_wp2_with (first | (go_at_call 76; refine (between_any _ _ _ _).mono ?_; rintro e w' ⟨rfl, rfl⟩) | (go_at_call 229; refine (lineNo_any _ _).mono ?_; rintro e w' ⟨rfl, rfl⟩))
  go_ret
  exact ⟨rfl, B⟩
 ·rw [h1] at HE;cases h2 : betw f3 1 15
  ·clear HL;go_enter Tryz.func188, Tryz.ntmps188;go_wp2_with fail
   generalize w.alloc (.cells #[.int .i64 f0, .int .i64 f1, .int .i64 f2, .int .i64 f3, .int .i64 f4, .slice a d.length cap, .int .i64 f6] 119) = W0 at X B ⊢;refine (HE.out _).mono ?_;rintro e w1 ⟨rfl, b1⟩;replace X := row_keep b1 X;replace B := below_step B b1;clear b1 HE;obtain ⟨x0, x1, x2, x3, x4, x5, x6⟩ := cells_7 X;go_wp2_with (first | (go_at_call 76; refine (between_any _ _ _ _).mono ?_; rintro e w' ⟨rfl, rfl⟩) | (go_at_call 229; refine (lineNo_any _ _).mono ?_; rintro e w' ⟨rfl, rfl⟩))
   go_ret
   exact ⟨rfl, B⟩
  ·cases h3 : betw f4 0 15
   ·clear HL;go_enter Tryz.func188, Tryz.ntmps188;go_wp2_with fail
    generalize w.alloc (.cells #[.int .i64 f0, .int .i64 f1, .int .i64 f2, .int .i64 f3, .int .i64 f4, .slice a d.length cap, .int .i64 f6] 119) = W0 at X B ⊢;refine (HE.out _).mono ?_;rintro e w1 ⟨rfl, b1⟩;replace X := row_keep b1 X;replace B := below_step B b1;clear b1 HE;obtain ⟨x0, x1, x2, x3, x4, x5, x6⟩ := cells_7 X;go_wp2_with (first | (go_at_call 76; refine (between_any _ _ _ _).mono ?_; rintro e w' ⟨rfl, rfl⟩) | (go_at_call 229; refine (lineNo_any _ _).mono ?_; rintro e w' ⟨rfl, rfl⟩))
    go_ret
    exact ⟨rfl, B⟩
   ·by_cases hz3 : d.length = 0
    ·have HD : Hid (dataB d = true) := data_nil hz3;rw [HD.out];have hz5 : d = [] := List.eq_nil_of_length_eq_zero hz3;clear HL;cases h5 : betw f6 0 15
     ·subst hz5;go_enter Tryz.func188, Tryz.ntmps188;go_wp2_with fail
      generalize w.alloc (.cells #[.int .i64 f0, .int .i64 f1, .int .i64 f2, .int .i64 f3, .int .i64 f4, .slice a ([] : List Int).length cap, .int .i64 f6] 119) = W0 at X B ⊢;refine (HE.out _).mono ?_;rintro e w1 ⟨rfl, b1⟩;replace X := row_keep b1 X;replace B := below_step B b1;clear b1 HE;obtain ⟨x0, x1, x2, x3, x4, x5, x6⟩ := cells_7 X;go_wp2_with (first | (go_at_call 76; refine (between_any _ _ _ _).mono ?_; rintro e w' ⟨rfl, rfl⟩) | (go_at_call 229; refine (lineNo_any _ _).mono ?_; rintro e w' ⟨rfl, rfl⟩))
      go_ret
      exact ⟨rfl, B⟩
     ·subst hz5;go_enter Tryz.func188, Tryz.ntmps188;go_wp2_with fail
      generalize w.alloc (.cells #[.int .i64 f0, .int .i64 f1, .int .i64 f2, .int .i64 f3, .int .i64 f4, .slice a ([] : List Int).length cap, .int .i64 f6] 119) = W0 at X B ⊢;refine (HE.out _).mono ?_;rintro e w1 ⟨rfl, b1⟩;replace X := row_keep b1 X;replace B := below_step B b1;clear b1 HE;obtain ⟨x0, x1, x2, x3, x4, x5, x6⟩ := cells_7 X;go_wp2_with (first | (go_at_call 76; refine (between_any _ _ _ _).mono ?_; rintro e w' ⟨rfl, rfl⟩) | (go_at_call 229; refine (lineNo_any _ _).mono ?_; rintro e w' ⟨rfl, rfl⟩))
      go_ret
      exact ⟨rfl, B⟩
    ·rw [data_line hz3];have hz4 : ¬ (d = []) := fun e => hz3 (by rw [e]; rfl);have hz : ¬ ((d.length : Int) = 0) := by omega
     have hz2 : ((d.length : Int) == 0) = false := beq_false_of_ne hz;cases h4 : isL d
     ·rw [h4] at HL;go_enter Tryz.func188, Tryz.ntmps188;go_wp2_with fail
      generalize w.alloc (.cells #[.int .i64 f0, .int .i64 f1, .int .i64 f2, .int .i64 f3, .int .i64 f4, .slice a d.length cap, .int .i64 f6] 119) = W0 at X B ⊢;refine (HE.out _).mono ?_;rintro e w1 ⟨rfl, b1⟩;replace X := row_keep b1 X;replace B := below_step B b1;clear b1 HE;obtain ⟨x0, x1, x2, x3, x4, x5, x6⟩ := cells_7 X;go_wp2_with (first | (go_at_call 76; refine (between_any _ _ _ _).mono ?_; rintro e w' ⟨rfl, rfl⟩) | (go_at_call 229; refine (lineNo_any _ _).mono ?_; rintro e w' ⟨rfl, rfl⟩) | (go_at_call 224; refine (HL.out _ B).mono ?_; rintro e w2 ⟨rfl, hb⟩; replace X := row_keep hb X; replace B := below_step B hb; clear hb x0 x1 x2 x3 x4 x5 x6; obtain ⟨x0, x1, x2, x3, x4, x5, x6⟩ := cells_7 X))
      go_ret
      exact ⟨rfl, B⟩
     ·rw [h4] at HL;cases h5 : betw f6 0 15
      ·skip
       go_enter Tryz.func188, Tryz.ntmps188;go_wp2_with fail
       generalize w.alloc (.cells #[.int .i64 f0, .int .i64 f1, .int .i64 f2, .int .i64 f3, .int .i64 f4, .slice a d.length cap, .int .i64 f6] 119) = W0 at X B ⊢;refine (HE.out _).mono ?_;rintro e w1 ⟨rfl, b1⟩;replace X := row_keep b1 X;replace B := below_step B b1;clear b1 HE;obtain ⟨x0, x1, x2, x3, x4, x5, x6⟩ := cells_7 X;go_wp2_with (first | (go_at_call 76; refine (between_any _ _ _ _).mono ?_; rintro e w' ⟨rfl, rfl⟩) | (go_at_call 229; refine (lineNo_any _ _).mono ?_; rintro e w' ⟨rfl, rfl⟩) | (go_at_call 224; refine (HL.out _ B).mono ?_; rintro e w2 ⟨rfl, hb⟩; replace X := row_keep hb X; replace B := below_step B hb; clear hb x0 x1 x2 x3 x4 x5 x6; obtain ⟨x0, x1, x2, x3, x4, x5, x6⟩ := cells_7 X))
       go_ret
       exact ⟨rfl, B⟩
      ·skip
       go_enter Tryz.func188, Tryz.ntmps188;go_wp2_with fail
       generalize w.alloc (.cells #[.int .i64 f0, .int .i64 f1, .int .i64 f2, .int .i64 f3, .int .i64 f4, .slice a d.length cap, .int .i64 f6] 119) = W0 at X B ⊢;refine (HE.out _).mono ?_;rintro e w1 ⟨rfl, b1⟩;replace X := row_keep b1 X;replace B := below_step B b1;clear b1 HE;obtain ⟨x0, x1, x2, x3, x4, x5, x6⟩ := cells_7 X;go_wp2_with (first | (go_at_call 76; refine (between_any _ _ _ _).mono ?_; rintro e w' ⟨rfl, rfl⟩) | (go_at_call 229; refine (lineNo_any _ _).mono ?_; rintro e w' ⟨rfl, rfl⟩) | (go_at_call 224; refine (HL.out _ B).mono ?_; rintro e w2 ⟨rfl, hb⟩; replace X := row_keep hb X; replace B := below_step B hb; clear hb x0 x1 x2 x3 x4 x5 x6; obtain ⟨x0, x1, x2, x3, x4, x5, x6⟩ := cells_7 X))
       go_ret
       exact ⟨rfl, B⟩
theorem specMsg_any (f0 f1 f2 f3 f4 f6 : Int) (d : List Int) (a : Option Addr) (cap : Nat) (w : World) (h : SlRd intR w a d) :
    Calls Tryz.prog 145 #[.agg #[.int .i64 f0, .int .i64 f1, .int .i64 f2, .int .i64 f3, .int .i64 f4, .slice a d.length cap, .int .i64 f6]] w fun e w' => e = .returned (.bool (msgB (f0, f1, f2, f3, f4, d, f6))) ∧ Below w.heap.size w w' := by
 have HL : Hid _ := fun (W : World) (hb : Below w.heap.size w W) => specLineOk_any a d cap W (reads_of (slrd_next h hb));have B := box_below w (.cells #[.int .i64 f0, .int .i64 f1, .int .i64 f2, .int .i64 f3, .int .i64 f4, .slice a d.length cap, .int .i64 f6] 119);clear h;cases h1 : betw f0 0 2
 ·clear HL;have HV : Hid (msgB (f0, f1, f2, f3, f4, d, f6) = false) := by unfold Hid; rw [mb]; unfold endsB; simp [h1]
  go_enter Tryz.func145, Tryz.ntmps145;go_wp2_with (first | (go_at_call 98; refine (l1In_any _ _ _ _).mono ?_; rintro e w' ⟨rfl, rfl⟩))
  go_ret
  exact ⟨ret_bool HV.out.symm, B⟩
 ·cases h2 : betw f1 0 5
  ·clear HL;have HV : Hid (msgB (f0, f1, f2, f3, f4, d, f6) = false) := by unfold Hid; rw [mb]; unfold endsB; simp [h2]
   go_enter Tryz.func145, Tryz.ntmps145;go_wp2_with (first | (go_at_call 98; refine (l1In_any _ _ _ _).mono ?_; rintro e w' ⟨rfl, rfl⟩))
   go_ret
   exact ⟨ret_bool HV.out.symm, B⟩
  ·cases h3 : betw f2 0 5
   ·clear HL;have HV : Hid (msgB (f0, f1, f2, f3, f4, d, f6) = false) := by unfold Hid; rw [mb]; unfold endsB; simp [h3]
    go_enter Tryz.func145, Tryz.ntmps145;go_wp2_with (first | (go_at_call 98; refine (l1In_any _ _ _ _).mono ?_; rintro e w' ⟨rfl, rfl⟩))
    go_ret
    exact ⟨ret_bool HV.out.symm, B⟩
   ·cases h4 : betw f4 0 15
    ·clear HL;have HV : Hid (msgB (f0, f1, f2, f3, f4, d, f6) = false) := by unfold Hid; rw [mb]; unfold endsB; simp [h4]
     go_enter Tryz.func145, Tryz.ntmps145;go_wp2_with (first | (go_at_call 98; refine (l1In_any _ _ _ _).mono ?_; rintro e w' ⟨rfl, rfl⟩))
     go_ret
     exact ⟨ret_bool HV.out.symm, B⟩
    ·by_cases hz3 : d.length = 0
     ·have HD : Hid (dataB d = true) := data_nil hz3;have hz5 : d = [] := List.eq_nil_of_length_eq_zero hz3;clear HL;subst hz5;cases h5 : betw f3 1 15
      ·skip
       have HV : Hid (msgB (f0, f1, f2, f3, f4, [], f6) = false) := by unfold Hid; rw [mb]; unfold endsB; simp [h5]
       go_enter Tryz.func145, Tryz.ntmps145;go_wp2_with (first | (go_at_call 98; refine (l1In_any _ _ _ _).mono ?_; rintro e w' ⟨rfl, rfl⟩))
       go_ret
       exact ⟨ret_bool HV.out.symm, B⟩
      ·cases h6 : betw f6 0 15
       ·skip
        have HV : Hid (msgB (f0, f1, f2, f3, f4, [], f6) = false) := by unfold Hid; rw [mb]; unfold endsB; simp [h6]
        go_enter Tryz.func145, Tryz.ntmps145;go_wp2_with (first | (go_at_call 98; refine (l1In_any _ _ _ _).mono ?_; rintro e w' ⟨rfl, rfl⟩))
        go_ret
        exact ⟨ret_bool HV.out.symm, B⟩
       ·skip
        have HV : Hid (msgB (f0, f1, f2, f3, f4, [], f6) = true) := by unfold Hid; rw [mb]; unfold endsB; simp [h1, h2, h3, h4, h5, h6, HD.out]
        go_enter Tryz.func145, Tryz.ntmps145;go_wp2_with (first | (go_at_call 98; refine (l1In_any _ _ _ _).mono ?_; rintro e w' ⟨rfl, rfl⟩))
        go_ret
        exact ⟨ret_bool HV.out.symm, B⟩
     ·have HD : Hid (dataB d = isL d) := data_line hz3;have hz4 : ¬ (d = []) := fun e => hz3 (by rw [e]; rfl);have hz : ¬ ((d.length : Int) = 0) := by omega
      have hz2 : ((d.length : Int) == 0) = false := beq_false_of_ne hz;cases h7 : isL d
      ·rw [h7] at HL;have HV : Hid (msgB (f0, f1, f2, f3, f4, d, f6) = false) := by unfold Hid; rw [mb]; unfold endsB; simp [HD.out, h7]
       go_enter Tryz.func145, Tryz.ntmps145;go_wp2_with (first | (go_at_call 98; refine (l1In_any _ _ _ _).mono ?_; rintro e w' ⟨rfl, rfl⟩) | (go_at_call 144; refine (HL.out _ B).mono ?_; rintro e w' ⟨rfl, rfl⟩))
       go_ret
       exact ⟨ret_bool HV.out.symm, B⟩
      ·rw [h7] at HL;cases h5 : betw f3 1 15
       ·skip
        have HV : Hid (msgB (f0, f1, f2, f3, f4, d, f6) = false) := by unfold Hid; rw [mb]; unfold endsB; simp [h5]
        go_enter Tryz.func145, Tryz.ntmps145;go_wp2_with (first | (go_at_call 98; refine (l1In_any _ _ _ _).mono ?_; rintro e w' ⟨rfl, rfl⟩) | (go_at_call 144; refine (HL.out _ B).mono ?_; rintro e w' ⟨rfl, rfl⟩))
        go_ret
        exact ⟨ret_bool HV.out.symm, B⟩
       ·cases h6 : betw f6 0 15
        ·skip
         have HV : Hid (msgB (f0, f1, f2, f3, f4, d, f6) = false) := by unfold Hid; rw [mb]; unfold endsB; simp [h6]
         go_enter Tryz.func145, Tryz.ntmps145;go_wp2_with (first | (go_at_call 98; refine (l1In_any _ _ _ _).mono ?_; rintro e w' ⟨rfl, rfl⟩) | (go_at_call 144; refine (HL.out _ B).mono ?_; rintro e w' ⟨rfl, rfl⟩))
         go_ret
         exact ⟨ret_bool HV.out.symm, B⟩
        ·skip
         have HV : Hid (msgB (f0, f1, f2, f3, f4, d, f6) = true) := by unfold Hid; rw [mb]; unfold endsB; simp [h1, h2, h3, h4, h5, h6, HD.out, h7]
         go_enter Tryz.func145, Tryz.ntmps145;go_wp2_with (first | (go_at_call 98; refine (l1In_any _ _ _ _).mono ?_; rintro e w' ⟨rfl, rfl⟩) | (go_at_call 144; refine (HL.out _ B).mono ?_; rintro e w' ⟨rfl, rfl⟩))
         go_ret
         exact ⟨ret_bool HV.out.symm, B⟩
def netB (xs : List MsgD) : Bool := decide (xs.length ≤ 60) && xs.all msgB
def badI (xs : List MsgD) : Int := match xs.findIdx? (fun u => !msgB u) with
 | some i => (i : Int)
 | none => -1
theorem bad_at {xs : List MsgD} {k : Nat} {u : MsgD} (hu : xs[k]? = some u) (hp : msgB u = false) (hno : ∀ j v, j < k → xs[j]? = some v → msgB v = true) : badI xs = (k : Int) := by
 have a := (List.getElem?_eq_some_iff.1 hu).1;have : xs.findIdx? (fun u => !msgB u) = some k := by
  rw [List.findIdx?_eq_some_iff_getElem];refine ⟨a, ?_, fun j hj => ?_⟩
  ·rw [List.getElem?_eq_getElem a] at hu;cases hu;simp [hp]
  ·have := hno j _ hj (List.getElem?_eq_getElem (by omega));simp [this]
 unfold badI;rw [this]
theorem bad_no {xs : List MsgD} (hno : ∀ (j : Nat) (v : MsgD), xs[j]? = some v → msgB v = true) : badI xs = -1 := by
 have : xs.findIdx? (fun u => !msgB u) = none := by
  rw [List.findIdx?_eq_none_iff];intro u a;obtain ⟨j, b⟩ := List.getElem?_of_mem a;simp [hno j u b]
 unfold badI;rw [this]
theorem all_bad (xs : List MsgD) : xs.all msgB = decide (badI xs < 0) := by
 cases h : xs.all msgB
 ·have b : ¬ ∀ x ∈ xs, msgB x = true := fun hh => by rw [List.all_eq_true.2 hh] at h; cases h
  cases a : xs.findIdx? (fun u => !msgB u) with
  | none =>
   rw [List.findIdx?_eq_none_iff] at a;exact (b fun x hx => by have := a x hx; simpa using this).elim
  | some i => simp [badI, a]
 ·rw [bad_no fun j v hv => List.all_eq_true.1 h v (List.mem_of_getElem? hv)];rfl
theorem netOk1_any (f0 f1 f2 f3 f4 f6 : Int) (d : List Int) (a : Option Addr) (cap : Nat) (w : World) (h : SlRd intR w a d) :
    Calls Tryz.prog 187 #[.agg #[.int .i64 f0, .int .i64 f1, .int .i64 f2, .int .i64 f3, .int .i64 f4, .slice a d.length cap, .int .i64 f6]] w fun e w' => e = .returned (.bool (!msgB (f0, f1, f2, f3, f4, d, f6))) ∧ Below w.heap.size w w' := by
 have B := box_below w (.cells #[.int .i64 f0, .int .i64 f1, .int .i64 f2, .int .i64 f3, .int .i64 f4, .slice a d.length cap, .int .i64 f6] 119);have b : Hid _ := fun (W : World) (hb : Below w.heap.size w W) => implMsgOk_any f0 f1 f2 f3 f4 f6 d a cap W (slrd_next h hb);generalize msgB (f0, f1, f2, f3, f4, d, f6) = q at b ⊢;clear h;go_enter Tryz.func187, Tryz.ntmps187;go_wp2_with fail
 generalize w.alloc (.cells #[.int .i64 f0, .int .i64 f1, .int .i64 f2, .int .i64 f3, .int .i64 f4, .slice a d.length cap, .int .i64 f6] 119) = W0 at B ⊢;refine (b.out _ B).mono ?_;rintro e w1 ⟨rfl, c⟩;go_wp2;go_ret
 exact ⟨rfl, below_step B c⟩
theorem indexBad_any (a : Option Addr) (xs : List MsgD) (cap : Nat) (w : World) (h : SlRd msgR w a xs) (hm : xs.length ≤ maxLen) :
    Calls Tryz.prog 227 #[.slice a xs.length cap, .func (.func 187) #[] #[]] w fun e w' => e = .returned (.int .i64 (badI xs)) ∧ Below w.heap.size w w' := by
 have R : xs.length ≤ 9223372036854775807 := hm;have N : Hid (∀ W, Below w.heap.size w W → SlRd msgR W a xs) := fun W o => slrd_keep h fun k M => o.block k M;clear h hm;go_enter Tryz.func227, Tryz.ntmps227;go_wp2;go_loopw [8] (fun i wr => ∃ k : Nat, k ≤ xs.length ∧ i = .int .i64 k ∧ (∀ j v, j < k → xs[j]? = some v → msgB v = true) ∧ Below w.heap.size w wr) (fun i _ => xs.length - (intOf i).toNat)
 case atStart => exact ⟨0, Nat.zero_le _, rfl, fun j v hj => by omega, Below.refl _ _⟩
 case round =>
  obtain ⟨k, M, rfl, m, g⟩ := hrel;by_cases z : k < xs.length
  ·have K : (k : Int) < (xs.length : Int) := by omega
   obtain ⟨x, D⟩ : ∃ x, xs[k]? = some x := ⟨_, List.getElem?_eq_getElem z⟩;obtain ⟨b, d, cs, rfl, f, c⟩ := slrd_at (N.out _ g) D;obtain ⟨A, n, rfl, -, -, -, -, -, -, I, F, q⟩ := msg_rd f;have B := c 0 _ rfl;have y := c 1 _ rfl;have J := c 2 _ rfl;have G := c 3 _ rfl;have C := c 4 _ rfl;have H := c 5 _ rfl;have E := c 6 _ rfl;rw [show d + (k * msgR.size + 0) = d + k * 7 from rfl] at B;rw [show d + (k * msgR.size + 1) = d + k * 7 + 1 from rfl] at y;rw [show d + (k * msgR.size + 2) = d + k * 7 + 2 from rfl] at J;rw [show d + (k * msgR.size + 3) = d + k * 7 + 3 from rfl] at G;rw [show d + (k * msgR.size + 4) = d + k * 7 + 4 from rfl] at C;rw [show d + (k * msgR.size + 5) = d + k * 7 + 5 from rfl] at H;rw [show d + (k * msgR.size + 6) = d + k * 7 + 6 from rfl] at E;clear c f I F;have p := netOk1_any x.1 x.2.1 x.2.2.1 x.2.2.2.1 x.2.2.2.2.1 x.2.2.2.2.2.2 x.2.2.2.2.2.1 A n wr q;have L : Hid (xs[k]? = some x) := D;clear D q;cases o : msgB x
   ·have s : Hid (badI xs = k) := bad_at L.out o m;have l : Hid (Calls Tryz.prog 187 #[.agg #[.int .i64 x.1, .int .i64 x.2.1, .int .i64 x.2.2.1, .int .i64 x.2.2.2.1, .int .i64 x.2.2.2.2.1, .slice A x.2.2.2.2.2.1.length n, .int .i64 x.2.2.2.2.2.2]] wr fun e w' => e = .returned (.bool true) ∧ Below wr.heap.size wr w') := by rw [show msgB (x.1, x.2.1, x.2.2.1, x.2.2.2.1, x.2.2.2.2.1, x.2.2.2.2.2.1, x.2.2.2.2.2.2) = msgB x from rfl, o] at p; exact p
    clear p;go_wp2_with fail
    refine l.out.mono ?_;rintro e S ⟨rfl, r⟩;replace g := below_step g r;clear r B y J G C H E;go_wp2;go_ret
    exact ⟨ret_int s.out.symm, g⟩
   ·have l : Hid (Calls Tryz.prog 187 #[.agg #[.int .i64 x.1, .int .i64 x.2.1, .int .i64 x.2.2.1, .int .i64 x.2.2.2.1, .int .i64 x.2.2.2.2.1, .slice A x.2.2.2.2.2.1.length n, .int .i64 x.2.2.2.2.2.2]] wr fun e w' => e = .returned (.bool false) ∧ Below wr.heap.size wr w') := by rw [show msgB (x.1, x.2.1, x.2.2.1, x.2.2.2.1, x.2.2.2.2.1, x.2.2.2.2.2.1, x.2.2.2.2.2.2) = msgB x from rfl, o] at p; exact p
    clear p;go_wp2_with fail
    refine l.out.mono ?_;rintro e S ⟨rfl, r⟩;replace g := below_step g r;clear r B y J G C H E;go_wp2;go_roundw
    case rel =>
     refine ⟨k + 1, by omega, by go_num, fun j v hj hv => ?_, g⟩;by_cases O : j < k
     ·exact m j v O hv
     ·have : j = k := by omega
      subst this;rw [L.out] at hv;cases hv;exact o
    case measure => simp [intOf]; omega
  ·have s : Hid (badI xs = -1) := bad_no fun j v hv => m j v (by have := (List.getElem?_eq_some_iff.1 hv).1; omega) hv;go_wp2;go_ret
   exact ⟨ret_int s.out.symm, g⟩
theorem containsBad_any (a : Option Addr) (xs : List MsgD) (cap : Nat) (w : World) (h : SlRd msgR w a xs) (hm : xs.length ≤ maxLen) :
    Calls Tryz.prog 186 #[.slice a xs.length cap, .func (.func 187) #[] #[]] w fun e w' => e = .returned (.bool (!xs.all msgB)) ∧ Below w.heap.size w w' := by
 have d := indexBad_any a xs cap w h hm;have b := all_bad xs;clear h hm;generalize badI xs = q at d b;generalize xs.all msgB = y at b ⊢;subst b;by_cases g : q < 0
 ·have c : ¬ (0 ≤ q) := by omega
  go_enter Tryz.func186, Tryz.ntmps186;go_wp2_with fail
  refine d.mono ?_;rintro e i ⟨rfl, f⟩;go_wp2;go_ret
  exact ⟨by simp [g], f⟩
 ·have c : 0 ≤ q := by omega
  go_enter Tryz.func186, Tryz.ntmps186;go_wp2_with fail
  refine d.mono ?_;rintro e i ⟨rfl, f⟩;go_wp2;go_ret
  exact ⟨by simp [g], f⟩
theorem implNetOk_any (a : Option Addr) (xs : List MsgD) (cap : Nat) (w : World) (h : SlRd msgR w a xs) (hm : xs.length ≤ maxLen) :
    Calls Tryz.prog 127 #[.slice a xs.length cap] w fun e w' => e = .returned (.bool (netB xs)) ∧ Below w.heap.size w w' := by
 have c := containsBad_any a xs cap w h hm;have g : xs.length ≤ 9223372036854775807 := hm;unfold netB;generalize xs.all msgB = y at c ⊢;clear h hm;by_cases f : xs.length ≤ 60
 ·have b : (xs.length : Int) ≤ 60 := by omega
  go_enter Tryz.func127, Tryz.ntmps127;go_wp2_with fail
  refine c.mono ?_;rintro e w1 ⟨rfl, d⟩;go_wp2;go_ret
  exact ⟨by simp [f], d⟩
 ·have b : ¬ ((xs.length : Int) ≤ 60) := by omega
  go_enter Tryz.func127, Tryz.ntmps127;go_wp2;go_ret
  exact ⟨by simp, Below.refl _ _⟩
theorem specNetOk_any (a : Option Addr) (xs : List MsgD) (cap : Nat) (w : World) (h : SlRd msgR w a xs) (hm : xs.length ≤ maxLen) :
    Calls Tryz.prog 93 #[.slice a xs.length cap] w fun e w' => e = .returned (.bool (netB xs)) ∧ Below w.heap.size w w' := by
 have T : xs.length ≤ 9223372036854775807 := hm;have R : Hid (∀ W, Below w.heap.size w W → SlRd msgR W a xs) := fun W o => slrd_keep h fun k O => o.block k O;clear h hm;by_cases N : xs.length ≤ 60
 ·have D : ¬ ((60 : Int) < (xs.length : Int)) := by omega
  go_enter Tryz.func93, Tryz.ntmps93;go_wp2;go_loopw [3] (fun i wr => ∃ k : Nat, k ≤ xs.length ∧ i = .int .i64 k ∧ (∀ j v, j < k → xs[j]? = some v → msgB v = true) ∧ Below w.heap.size w wr) (fun i _ => xs.length - (intOf i).toNat)
  case atStart => exact ⟨0, Nat.zero_le _, rfl, fun j v hj => by omega, Below.refl _ _⟩
  case round =>
   obtain ⟨k, O, rfl, m, g⟩ := hrel;by_cases z : k < xs.length
   ·have L : (k : Int) < (xs.length : Int) := by omega
    obtain ⟨x, E⟩ : ∃ x, xs[k]? = some x := ⟨_, List.getElem?_eq_getElem z⟩;obtain ⟨b, d, cs, rfl, f, c⟩ := slrd_at (R.out _ g) E;obtain ⟨A, n, rfl, -, -, -, -, -, -, J, G, r⟩ := msg_rd f;have B := c 0 _ rfl;have y := c 1 _ rfl;have K := c 2 _ rfl;have H := c 3 _ rfl;have C := c 4 _ rfl;have I := c 5 _ rfl;have F := c 6 _ rfl;rw [show d + (k * msgR.size + 0) = d + k * 7 from rfl] at B;rw [show d + (k * msgR.size + 1) = d + k * 7 + 1 from rfl] at y;rw [show d + (k * msgR.size + 2) = d + k * 7 + 2 from rfl] at K;rw [show d + (k * msgR.size + 3) = d + k * 7 + 3 from rfl] at H;rw [show d + (k * msgR.size + 4) = d + k * 7 + 4 from rfl] at C;rw [show d + (k * msgR.size + 5) = d + k * 7 + 5 from rfl] at I;rw [show d + (k * msgR.size + 6) = d + k * 7 + 6 from rfl] at F;clear c f J G;have p := specMsg_any x.1 x.2.1 x.2.2.1 x.2.2.2.1 x.2.2.2.2.1 x.2.2.2.2.2.2 x.2.2.2.2.2.1 A n wr r;have M : Hid (xs[k]? = some x) := E;clear E r;cases o : msgB x
    ·have q : Hid (netB xs = false) := by
       unfold Hid netB;rw [all_bad, bad_at M.out o m];simp
     have l : Hid (Calls Tryz.prog 145 #[.agg #[.int .i64 x.1, .int .i64 x.2.1, .int .i64 x.2.2.1, .int .i64 x.2.2.2.1, .int .i64 x.2.2.2.2.1, .slice A x.2.2.2.2.2.1.length n, .int .i64 x.2.2.2.2.2.2]] wr fun e w' => e = .returned (.bool false) ∧ Below wr.heap.size wr w') := by rw [show msgB (x.1, x.2.1, x.2.2.1, x.2.2.2.1, x.2.2.2.2.1, x.2.2.2.2.2.1, x.2.2.2.2.2.2) = msgB x from rfl, o] at p; exact p
     clear p;go_wp2_with fail
     refine l.out.mono ?_;rintro e U ⟨rfl, s⟩;replace g := below_step g s;clear s B y K H C I F;go_wp2;go_ret
     exact ⟨ret_bool q.out.symm, g⟩
    ·have l : Hid (Calls Tryz.prog 145 #[.agg #[.int .i64 x.1, .int .i64 x.2.1, .int .i64 x.2.2.1, .int .i64 x.2.2.2.1, .int .i64 x.2.2.2.2.1, .slice A x.2.2.2.2.2.1.length n, .int .i64 x.2.2.2.2.2.2]] wr fun e w' => e = .returned (.bool true) ∧ Below wr.heap.size wr w') := by rw [show msgB (x.1, x.2.1, x.2.2.1, x.2.2.2.1, x.2.2.2.2.1, x.2.2.2.2.2.1, x.2.2.2.2.2.2) = msgB x from rfl, o] at p; exact p
     clear p;go_wp2_with fail
     refine l.out.mono ?_;rintro e U ⟨rfl, s⟩;replace g := below_step g s;clear s B y K H C I F;go_wp2;go_roundw
     case rel =>
      refine ⟨k + 1, by omega, by go_num, fun j v hj hv => ?_, g⟩;by_cases S : j < k
      ·exact m j v S hv
      ·have : j = k := by omega
       subst this;rw [M.out] at hv;cases hv;exact o
     case measure => simp [intOf]; omega
   ·have q : Hid (netB xs = true) := by
      unfold Hid netB;rw [all_bad, bad_no fun j v hv => m j v (by have := (List.getElem?_eq_some_iff.1 hv).1; omega) hv];simp [N]
    go_wp2;go_ret
    exact ⟨ret_bool q.out.symm, g⟩
 ·have q : Hid (netB xs = false) := by unfold Hid netB; simp [N]
  have D : (60 : Int) < (xs.length : Int) := by omega
  go_enter Tryz.func93, Tryz.ntmps93;go_wp2;go_ret
  exact ⟨ret_bool q.out.symm, Below.refl _ _⟩
end Go.Proofs.YtcocbafhcpdheaaGreatDoor
