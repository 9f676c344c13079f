/- When a letter is right, of the program and of its specification. No condition but a list that reads as told. -/
import Derived.Test.YtfflmbpjolgghaaMsgs
import Derived.Test.YtfflmbpjolgghaaLines6
namespace Go.Proofs.Ytfflmbpjolgghaa
open Go.ChangeShapes Go.WideShapes Go.ChangeAt Go.RowKit
set_option linter.unusedVariables false

def endsB (r f t : Int) : Bool := betw r 0 2 && (betw f 0 5 && betw t 0 5)
def dataB (d : List Int) : Bool := d.isEmpty || isL d
def msgB (u : MsgD) : Bool := endsB u.1 u.2.1 u.2.2.1 && (betw u.2.2.2.1 1 15 && (betw u.2.2.2.2.1 0 15 && (dataB u.2.2.2.2.2.1 && betw u.2.2.2.2.2.2 0 15)))
theorem data_nil {d : List Int} (h : d.length = 0) : dataB d = true := by
  have : d = [] := List.eq_nil_of_length_eq_zero h
  subst this
  rfl
theorem data_line {d : List Int} (h : ¬ d.length = 0) : dataB d = isL d := by
  cases d with
  | nil => exact (h rfl).elim
  | cons x r => rfl
theorem mb {r f t k l g : Int} {d : List Int} : msgB (r, f, t, k, l, d, g) = (endsB r f t && (betw k 1 15 && (betw l 0 15 && (dataB d && betw g 0 15)))) := rfl

theorem lineNo_any (k : Int) (w : World) : Calls Try.prog 65 #[.int .i64 k] w fun e w' => e = .returned (.bool (betw k 0 15)) ∧ w' = w := by
  go_enter Try.func65, Try.ntmps65
  go_wp2_with (go_at_call 51; refine (between_any _ _ _ _).mono ?_; rintro e w' ⟨rfl, rfl⟩)
  go_ret
  exact ⟨rfl, rfl⟩

set_option maxHeartbeats 1000000 in
theorem implEnds_any (f0 f1 f2 f3 f4 f6 : Int) (d : List Int) (a : Option Addr) (cap : Nat) (w : World) :
    Calls Try.prog 64 #[.agg #[.int .i64 f0, .int .i64 f1, .int .i64 f2, .int .i64 f3, .int .i64 f4, .slice a d.length cap, .int .i64 f6]] w fun e w' => e = .returned (.bool (endsB f0 f1 f2)) ∧ Below w.heap.size w w' := by
  have HB : Hid _ := box_below w
  unfold endsB
  cases h1 : betw f0 0 2
  · go_enter Try.func64, Try.ntmps64
    go_wp2_with (go_at_call 51; refine (between_any _ _ _ _).mono ?_; rintro e w' ⟨rfl, rfl⟩)
    go_ret
    exact ⟨rfl, HB.out _⟩
  · cases h2 : betw f1 0 5
    · go_enter Try.func64, Try.ntmps64
      go_wp2_with (go_at_call 51; refine (between_any _ _ _ _).mono ?_; rintro e w' ⟨rfl, rfl⟩)
      go_ret
      exact ⟨rfl, HB.out _⟩
    · go_enter Try.func64, Try.ntmps64
      go_wp2_with (go_at_call 51; refine (between_any _ _ _ _).mono ?_; rintro e w' ⟨rfl, rfl⟩)
      go_ret
      exact ⟨rfl, HB.out _⟩

set_option maxHeartbeats 4000000 in
theorem implMsgOk_any (f0 f1 f2 f3 f4 f6 : Int) (d : List Int) (a : Option Addr) (cap : Nat) (w : World) (h : SlRd intR w a d) :
    Calls Try.prog 39 #[.agg #[.int .i64 f0, .int .i64 f1, .int .i64 f2, .int .i64 f3, .int .i64 f4, .slice a d.length cap, .int .i64 f6]] w fun e w' => e = .returned (.bool (msgB (f0, f1, f2, f3, f4, d, f6))) ∧ Below w.heap.size w w' := by
  have HE : Hid (∀ W, Calls Try.prog 64 #[.agg #[.int .i64 f0, .int .i64 f1, .int .i64 f2, .int .i64 f3, .int .i64 f4, .slice a d.length cap, .int .i64 f6]] W fun e w' => e = .returned (.bool (endsB f0 f1 f2)) ∧ Below W.heap.size W w') := fun W => implEnds_any f0 f1 f2 f3 f4 f6 d a cap W
  have HL : Hid (∀ W, Below w.heap.size w W → Calls Try.prog 66 #[.slice a d.length cap] W fun e w' => e = .returned (.bool (isL d)) ∧ Below W.heap.size W w') := fun W hb => implLineOk_any a d cap W (reads_of (slrd_next h hb))
  have X := heap_at w (.cells #[.int .i64 f0, .int .i64 f1, .int .i64 f2, .int .i64 f3, .int .i64 f4, .slice a d.length cap, .int .i64 f6] 27)
  have B := box_below w (.cells #[.int .i64 f0, .int .i64 f1, .int .i64 f2, .int .i64 f3, .int .i64 f4, .slice a d.length cap, .int .i64 f6] 27)
  clear h
  rw [mb]
  cases h1 : endsB f0 f1 f2
  · rw [h1] at HE
    go_enter Try.func39, Try.ntmps39
    go_wp2_with fail
    generalize w.alloc (.cells #[.int .i64 f0, .int .i64 f1, .int .i64 f2, .int .i64 f3, .int .i64 f4, .slice a d.length cap, .int .i64 f6] 27) = W0 at X B ⊢
    refine (HE.out _).mono ?_
    rintro e w1 ⟨rfl, b1⟩
    replace X := row_keep b1 X
    replace B := below_step B b1
    clear b1 HE
    obtain ⟨x0, x1, x2, x3, x4, x5, x6⟩ := cells_7 X
    go_wp2_with (first | (go_at_call 51; refine (between_any _ _ _ _).mono ?_; rintro e w' ⟨rfl, rfl⟩) | (go_at_call 65; refine (lineNo_any _ _).mono ?_; rintro e w' ⟨rfl, rfl⟩))
    go_ret
    exact ⟨rfl, B⟩
  · rw [h1] at HE
    cases h2 : betw f3 1 15
    · clear HL
      go_enter Try.func39, Try.ntmps39
      go_wp2_with fail
      generalize w.alloc (.cells #[.int .i64 f0, .int .i64 f1, .int .i64 f2, .int .i64 f3, .int .i64 f4, .slice a d.length cap, .int .i64 f6] 27) = W0 at X B ⊢
      refine (HE.out _).mono ?_
      rintro e w1 ⟨rfl, b1⟩
      replace X := row_keep b1 X
      replace B := below_step B b1
      clear b1 HE
      obtain ⟨x0, x1, x2, x3, x4, x5, x6⟩ := cells_7 X
      go_wp2_with (first | (go_at_call 51; refine (between_any _ _ _ _).mono ?_; rintro e w' ⟨rfl, rfl⟩) | (go_at_call 65; refine (lineNo_any _ _).mono ?_; rintro e w' ⟨rfl, rfl⟩))
      go_ret
      exact ⟨rfl, B⟩
    · cases h3 : betw f4 0 15
      · clear HL
        go_enter Try.func39, Try.ntmps39
        go_wp2_with fail
        generalize w.alloc (.cells #[.int .i64 f0, .int .i64 f1, .int .i64 f2, .int .i64 f3, .int .i64 f4, .slice a d.length cap, .int .i64 f6] 27) = W0 at X B ⊢
        refine (HE.out _).mono ?_
        rintro e w1 ⟨rfl, b1⟩
        replace X := row_keep b1 X
        replace B := below_step B b1
        clear b1 HE
        obtain ⟨x0, x1, x2, x3, x4, x5, x6⟩ := cells_7 X
        go_wp2_with (first | (go_at_call 51; refine (between_any _ _ _ _).mono ?_; rintro e w' ⟨rfl, rfl⟩) | (go_at_call 65; refine (lineNo_any _ _).mono ?_; rintro e w' ⟨rfl, rfl⟩))
        go_ret
        exact ⟨rfl, B⟩
      · by_cases hz3 : d.length = 0
        · have HD : Hid (dataB d = true) := data_nil hz3
          rw [HD.out]
          have hz5 : d = [] := List.eq_nil_of_length_eq_zero hz3
          clear HL
          cases h5 : betw f6 0 15
          · subst hz5
            go_enter Try.func39, Try.ntmps39
            go_wp2_with fail
            generalize w.alloc (.cells #[.int .i64 f0, .int .i64 f1, .int .i64 f2, .int .i64 f3, .int .i64 f4, .slice a ([] : List Int).length cap, .int .i64 f6] 27) = W0 at X B ⊢
            refine (HE.out _).mono ?_
            rintro e w1 ⟨rfl, b1⟩
            replace X := row_keep b1 X
            replace B := below_step B b1
            clear b1 HE
            obtain ⟨x0, x1, x2, x3, x4, x5, x6⟩ := cells_7 X
            go_wp2_with (first | (go_at_call 51; refine (between_any _ _ _ _).mono ?_; rintro e w' ⟨rfl, rfl⟩) | (go_at_call 65; refine (lineNo_any _ _).mono ?_; rintro e w' ⟨rfl, rfl⟩))
            go_ret
            exact ⟨rfl, B⟩
          · subst hz5
            go_enter Try.func39, Try.ntmps39
            go_wp2_with fail
            generalize w.alloc (.cells #[.int .i64 f0, .int .i64 f1, .int .i64 f2, .int .i64 f3, .int .i64 f4, .slice a ([] : List Int).length cap, .int .i64 f6] 27) = W0 at X B ⊢
            refine (HE.out _).mono ?_
            rintro e w1 ⟨rfl, b1⟩
            replace X := row_keep b1 X
            replace B := below_step B b1
            clear b1 HE
            obtain ⟨x0, x1, x2, x3, x4, x5, x6⟩ := cells_7 X
            go_wp2_with (first | (go_at_call 51; refine (between_any _ _ _ _).mono ?_; rintro e w' ⟨rfl, rfl⟩) | (go_at_call 65; refine (lineNo_any _ _).mono ?_; rintro e w' ⟨rfl, rfl⟩))
            go_ret
            exact ⟨rfl, B⟩
        · rw [data_line hz3]
          have hz4 : ¬ (d = []) := fun e => hz3 (by rw [e]; rfl)
          have hz : ¬ ((d.length : Int) = 0) := by omega
          have hz2 : ((d.length : Int) == 0) = false := beq_false_of_ne hz
          cases h4 : isL d
          · rw [h4] at HL
            go_enter Try.func39, Try.ntmps39
            go_wp2_with fail
            generalize w.alloc (.cells #[.int .i64 f0, .int .i64 f1, .int .i64 f2, .int .i64 f3, .int .i64 f4, .slice a d.length cap, .int .i64 f6] 27) = W0 at X B ⊢
            refine (HE.out _).mono ?_
            rintro e w1 ⟨rfl, b1⟩
            replace X := row_keep b1 X
            replace B := below_step B b1
            clear b1 HE
            obtain ⟨x0, x1, x2, x3, x4, x5, x6⟩ := cells_7 X
            go_wp2_with (first | (go_at_call 51; refine (between_any _ _ _ _).mono ?_; rintro e w' ⟨rfl, rfl⟩) | (go_at_call 65; refine (lineNo_any _ _).mono ?_; rintro e w' ⟨rfl, rfl⟩) | (go_at_call 66; refine (HL.out _ B).mono ?_; rintro e w2 ⟨rfl, hb⟩; replace X := row_keep hb X; replace B := below_step B hb; clear hb x0 x1 x2 x3 x4 x5 x6; obtain ⟨x0, x1, x2, x3, x4, x5, x6⟩ := cells_7 X))
            go_ret
            exact ⟨rfl, B⟩
          · rw [h4] at HL
            cases h5 : betw f6 0 15
            · skip
              go_enter Try.func39, Try.ntmps39
              go_wp2_with fail
              generalize w.alloc (.cells #[.int .i64 f0, .int .i64 f1, .int .i64 f2, .int .i64 f3, .int .i64 f4, .slice a d.length cap, .int .i64 f6] 27) = W0 at X B ⊢
              refine (HE.out _).mono ?_
              rintro e w1 ⟨rfl, b1⟩
              replace X := row_keep b1 X
              replace B := below_step B b1
              clear b1 HE
              obtain ⟨x0, x1, x2, x3, x4, x5, x6⟩ := cells_7 X
              go_wp2_with (first | (go_at_call 51; refine (between_any _ _ _ _).mono ?_; rintro e w' ⟨rfl, rfl⟩) | (go_at_call 65; refine (lineNo_any _ _).mono ?_; rintro e w' ⟨rfl, rfl⟩) | (go_at_call 66; refine (HL.out _ B).mono ?_; rintro e w2 ⟨rfl, hb⟩; replace X := row_keep hb X; replace B := below_step B hb; clear hb x0 x1 x2 x3 x4 x5 x6; obtain ⟨x0, x1, x2, x3, x4, x5, x6⟩ := cells_7 X))
              go_ret
              exact ⟨rfl, B⟩
            · skip
              go_enter Try.func39, Try.ntmps39
              go_wp2_with fail
              generalize w.alloc (.cells #[.int .i64 f0, .int .i64 f1, .int .i64 f2, .int .i64 f3, .int .i64 f4, .slice a d.length cap, .int .i64 f6] 27) = W0 at X B ⊢
              refine (HE.out _).mono ?_
              rintro e w1 ⟨rfl, b1⟩
              replace X := row_keep b1 X
              replace B := below_step B b1
              clear b1 HE
              obtain ⟨x0, x1, x2, x3, x4, x5, x6⟩ := cells_7 X
              go_wp2_with (first | (go_at_call 51; refine (between_any _ _ _ _).mono ?_; rintro e w' ⟨rfl, rfl⟩) | (go_at_call 65; refine (lineNo_any _ _).mono ?_; rintro e w' ⟨rfl, rfl⟩) | (go_at_call 66; refine (HL.out _ B).mono ?_; rintro e w2 ⟨rfl, hb⟩; replace X := row_keep hb X; replace B := below_step B hb; clear hb x0 x1 x2 x3 x4 x5 x6; obtain ⟨x0, x1, x2, x3, x4, x5, x6⟩ := cells_7 X))
              go_ret
              exact ⟨rfl, B⟩

set_option maxHeartbeats 4000000 in
theorem specMsg_any (f0 f1 f2 f3 f4 f6 : Int) (d : List Int) (a : Option Addr) (cap : Nat) (w : World) (h : SlRd intR w a d) :
    Calls Try.prog 44 #[.agg #[.int .i64 f0, .int .i64 f1, .int .i64 f2, .int .i64 f3, .int .i64 f4, .slice a d.length cap, .int .i64 f6]] w fun e w' => e = .returned (.bool (msgB (f0, f1, f2, f3, f4, d, f6))) ∧ Below w.heap.size w w' := by
  have HL : Hid (∀ W, Below w.heap.size w W → Calls Try.prog 75 #[.slice a d.length cap] W fun e w' => e = .returned (.bool (isL d)) ∧ w' = W) := fun W hb => specLineOk_any a d cap W (reads_of (slrd_next h hb))
  have B := box_below w (.cells #[.int .i64 f0, .int .i64 f1, .int .i64 f2, .int .i64 f3, .int .i64 f4, .slice a d.length cap, .int .i64 f6] 27)
  clear h
  cases h1 : betw f0 0 2
  · clear HL
    have HV : Hid (msgB (f0, f1, f2, f3, f4, d, f6) = false) := by unfold Hid; rw [mb]; unfold endsB; simp [h1]
    go_enter Try.func44, Try.ntmps44
    go_wp2_with (first | (go_at_call 74; refine (l1In_any _ _ _ _).mono ?_; rintro e w' ⟨rfl, rfl⟩))
    go_ret
    exact ⟨ret_bool HV.out.symm, B⟩
  · cases h2 : betw f1 0 5
    · clear HL
      have HV : Hid (msgB (f0, f1, f2, f3, f4, d, f6) = false) := by unfold Hid; rw [mb]; unfold endsB; simp [h2]
      go_enter Try.func44, Try.ntmps44
      go_wp2_with (first | (go_at_call 74; refine (l1In_any _ _ _ _).mono ?_; rintro e w' ⟨rfl, rfl⟩))
      go_ret
      exact ⟨ret_bool HV.out.symm, B⟩
    · cases h3 : betw f2 0 5
      · clear HL
        have HV : Hid (msgB (f0, f1, f2, f3, f4, d, f6) = false) := by unfold Hid; rw [mb]; unfold endsB; simp [h3]
        go_enter Try.func44, Try.ntmps44
        go_wp2_with (first | (go_at_call 74; refine (l1In_any _ _ _ _).mono ?_; rintro e w' ⟨rfl, rfl⟩))
        go_ret
        exact ⟨ret_bool HV.out.symm, B⟩
      · cases h4 : betw f4 0 15
        · clear HL
          have HV : Hid (msgB (f0, f1, f2, f3, f4, d, f6) = false) := by unfold Hid; rw [mb]; unfold endsB; simp [h4]
          go_enter Try.func44, Try.ntmps44
          go_wp2_with (first | (go_at_call 74; refine (l1In_any _ _ _ _).mono ?_; rintro e w' ⟨rfl, rfl⟩))
          go_ret
          exact ⟨ret_bool HV.out.symm, B⟩
        · by_cases hz3 : d.length = 0
          · have HD : Hid (dataB d = true) := data_nil hz3
            have hz5 : d = [] := List.eq_nil_of_length_eq_zero hz3
            clear HL
            subst hz5
            cases h5 : betw f3 1 15
            · skip
              have HV : Hid (msgB (f0, f1, f2, f3, f4, [], f6) = false) := by unfold Hid; rw [mb]; unfold endsB; simp [h5]
              go_enter Try.func44, Try.ntmps44
              go_wp2_with (first | (go_at_call 74; refine (l1In_any _ _ _ _).mono ?_; rintro e w' ⟨rfl, rfl⟩))
              go_ret
              exact ⟨ret_bool HV.out.symm, B⟩
            · cases h6 : betw f6 0 15
              · skip
                have HV : Hid (msgB (f0, f1, f2, f3, f4, [], f6) = false) := by unfold Hid; rw [mb]; unfold endsB; simp [h6]
                go_enter Try.func44, Try.ntmps44
                go_wp2_with (first | (go_at_call 74; refine (l1In_any _ _ _ _).mono ?_; rintro e w' ⟨rfl, rfl⟩))
                go_ret
                exact ⟨ret_bool HV.out.symm, B⟩
              · skip
                have HV : Hid (msgB (f0, f1, f2, f3, f4, [], f6) = true) := by unfold Hid; rw [mb]; unfold endsB; simp [h1, h2, h3, h4, h5, h6, HD.out]
                go_enter Try.func44, Try.ntmps44
                go_wp2_with (first | (go_at_call 74; refine (l1In_any _ _ _ _).mono ?_; rintro e w' ⟨rfl, rfl⟩))
                go_ret
                exact ⟨ret_bool HV.out.symm, B⟩
          · have HD : Hid (dataB d = isL d) := data_line hz3
            have hz4 : ¬ (d = []) := fun e => hz3 (by rw [e]; rfl)
            have hz : ¬ ((d.length : Int) = 0) := by omega
            have hz2 : ((d.length : Int) == 0) = false := beq_false_of_ne hz
            cases h7 : isL d
            · rw [h7] at HL
              have HV : Hid (msgB (f0, f1, f2, f3, f4, d, f6) = false) := by unfold Hid; rw [mb]; unfold endsB; simp [HD.out, h7]
              go_enter Try.func44, Try.ntmps44
              go_wp2_with (first | (go_at_call 74; refine (l1In_any _ _ _ _).mono ?_; rintro e w' ⟨rfl, rfl⟩) | (go_at_call 75; refine (HL.out _ B).mono ?_; rintro e w' ⟨rfl, rfl⟩))
              go_ret
              exact ⟨ret_bool HV.out.symm, B⟩
            · rw [h7] at HL
              cases h5 : betw f3 1 15
              · skip
                have HV : Hid (msgB (f0, f1, f2, f3, f4, d, f6) = false) := by unfold Hid; rw [mb]; unfold endsB; simp [h5]
                go_enter Try.func44, Try.ntmps44
                go_wp2_with (first | (go_at_call 74; refine (l1In_any _ _ _ _).mono ?_; rintro e w' ⟨rfl, rfl⟩) | (go_at_call 75; refine (HL.out _ B).mono ?_; rintro e w' ⟨rfl, rfl⟩))
                go_ret
                exact ⟨ret_bool HV.out.symm, B⟩
              · cases h6 : betw f6 0 15
                · skip
                  have HV : Hid (msgB (f0, f1, f2, f3, f4, d, f6) = false) := by unfold Hid; rw [mb]; unfold endsB; simp [h6]
                  go_enter Try.func44, Try.ntmps44
                  go_wp2_with (first | (go_at_call 74; refine (l1In_any _ _ _ _).mono ?_; rintro e w' ⟨rfl, rfl⟩) | (go_at_call 75; refine (HL.out _ B).mono ?_; rintro e w' ⟨rfl, rfl⟩))
                  go_ret
                  exact ⟨ret_bool HV.out.symm, B⟩
                · skip
                  have HV : Hid (msgB (f0, f1, f2, f3, f4, d, f6) = true) := by unfold Hid; rw [mb]; unfold endsB; simp [h1, h2, h3, h4, h5, h6, HD.out, h7]
                  go_enter Try.func44, Try.ntmps44
                  go_wp2_with (first | (go_at_call 74; refine (l1In_any _ _ _ _).mono ?_; rintro e w' ⟨rfl, rfl⟩) | (go_at_call 75; refine (HL.out _ B).mono ?_; rintro e w' ⟨rfl, rfl⟩))
                  go_ret
                  exact ⟨ret_bool HV.out.symm, B⟩
end Go.Proofs.Ytfflmbpjolgghaa
