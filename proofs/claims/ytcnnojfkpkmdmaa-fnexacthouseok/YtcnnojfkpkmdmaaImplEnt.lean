
/- When an entry of the book is right, of the program. No condition but a list that reads as told. -/
import Derived.Test.YtcnnojfkpkmdmaaEntDefs
namespace Go.Proofs.Ytcnnojfkpkmdmaa
open Go.ChangeShapes Go.WideShapes Go.ChangeAt Go.RowKit
set_option linter.unusedVariables false

def cby (k : Int) : Bool := decide (k = 1) || decide (k = 2)
def pby (k : Int) : Bool := decide (k = 3) || decide (k = 4)
def askB (k f : Int) : Bool := (cby k && betw f 0 3) || (pby k && decide (f = 5))
def leftB (k l : Int) : Bool := if pby k then betw l 1 4 else betw l 0 4
def whoI (o s : Int) : Bool := if betw o 0 3 then decide (s = 0) else decide (o = -1) && betw s 0 15
def reqI (b : Bool) (k f l : Int) : Bool := if b then askB k f && leftB k l else decide (k = 0) && (decide (f = 0) && decide (l = 0))
def datI (k m : Int) (d : List Int) : Bool := if k = 4 then betw m 0 3 && isL d else decide (m = 0) && decide (d.length = 0)
theorem who_eq (o s : Int) : whoB o s = whoI o s := by
  unfold whoB whoI betw
  rw [Bool.eq_iff_iff]
  by_cases h : 0 ≤ o ∧ o ≤ 3
  · rw [if_pos (by simpa using h)]
    simp
    omega
  · rw [if_neg (by simpa using h)]
    simp
    omega
theorem req_eq (b : Bool) (k f l m : Int) (d : List Int) : (if b then busyB k f l m d else restB k f l m d) = (reqI b k f l && datI k m d) := by
  cases b
  · show restB k f l m d = (reqI false k f l && datI k m d)
    unfold restB reqI datI
    generalize decide (d.length = 0) = z
    by_cases h : k = 4
    · subst h; simp
    · rw [if_neg (by decide), if_neg h]
      cases z <;> simp [Bool.and_assoc]
  · show busyB k f l m d = (reqI true k f l && datI k m d)
    unfold busyB reqI datI fromB loadB askB leftB cby pby betw
    generalize decide (d.length = 0) = z
    generalize isL d = y
    cases z <;> cases y
    all_goals
      by_cases h1 : k = 1
      · subst h1; rw [Bool.eq_iff_iff]; simp <;> omega
      · by_cases h2 : k = 2
        · subst h2; rw [Bool.eq_iff_iff]; simp <;> omega
        · by_cases h3 : k = 3
          · subst h3; rw [Bool.eq_iff_iff]; simp <;> omega
          · by_cases h4 : k = 4
            · subst h4; rw [Bool.eq_iff_iff]; simp <;> omega
            · rw [Bool.eq_iff_iff]
              simp [h1, h2, h3, h4]
              try omega
theorem ent_parts (o s : Int) (b : Bool) (k f l m : Int) (d : List Int) : entB (o, s, b, k, f, l, m, d) = (whoI o s && (reqI b k f l && datI k m d)) := by
  rw [eb, who_eq, req_eq]

theorem coreOk_any (c : Int) (w : World) : Calls Try.prog 74 #[.int .i64 c] w fun e w' => e = .returned (.bool (betw c 0 3)) ∧ w' = w := by
  go_enter Try.func74, Try.ntmps74
  go_wp2_with (go_at_call 53; refine (between_any _ _ _ _).mono ?_; rintro e w' ⟨rfl, rfl⟩)
  go_ret
  exact ⟨rfl, rfl⟩
theorem byCore_any (k : Int) (w : World) : Calls Try.prog 84 #[.int .i64 k] w fun e w' => e = .returned (.bool (cby k)) ∧ w' = w := by
  by_cases h1 : k = 1
  · subst h1
    go_enter Try.func84, Try.ntmps84
    go_wp2
    go_ret
    exact ⟨rfl, rfl⟩
  · have h1b : (k == 1) = false := beq_false_of_ne h1
    by_cases h2 : k = 2
    · subst h2
      go_enter Try.func84, Try.ntmps84
      go_wp2
      go_ret
      exact ⟨rfl, rfl⟩
    · have h2b : (k == 2) = false := beq_false_of_ne h2
      have HV : Hid (cby k = false) := by unfold Hid cby; simp [h1, h2]
      go_enter Try.func84, Try.ntmps84
      go_wp2
      go_ret
      exact ⟨ret_bool HV.out.symm, rfl⟩
theorem byPort_any (k : Int) (w : World) : Calls Try.prog 85 #[.int .i64 k] w fun e w' => e = .returned (.bool (pby k)) ∧ w' = w := by
  by_cases h1 : k = 3
  · subst h1
    go_enter Try.func85, Try.ntmps85
    go_wp2
    go_ret
    exact ⟨rfl, rfl⟩
  · have h1b : (k == 3) = false := beq_false_of_ne h1
    by_cases h2 : k = 4
    · subst h2
      go_enter Try.func85, Try.ntmps85
      go_wp2
      go_ret
      exact ⟨rfl, rfl⟩
    · have h2b : (k == 4) = false := beq_false_of_ne h2
      have HV : Hid (pby k = false) := by unfold Hid pby; simp [h1, h2]
      go_enter Try.func85, Try.ntmps85
      go_wp2
      go_ret
      exact ⟨ret_bool HV.out.symm, rfl⟩
set_option maxHeartbeats 1000000 in
theorem askerOk_any (k f : Int) (w : World) : Calls Try.prog 75 #[.int .i64 k, .int .i64 f] w fun e w' => e = .returned (.bool (askB k f)) ∧ w' = w := by
  unfold askB
  cases h1 : cby k
  · cases h2 : pby k
    · go_enter Try.func75, Try.ntmps75
      go_wp2_with (first | (go_at_call 84; refine (byCore_any _ _).mono ?_; rintro e w' ⟨rfl, rfl⟩) | (go_at_call 74; refine (coreOk_any _ _).mono ?_; rintro e w' ⟨rfl, rfl⟩) | (go_at_call 85; refine (byPort_any _ _).mono ?_; rintro e w' ⟨rfl, rfl⟩))
      go_ret
      exact ⟨rfl, rfl⟩
    · by_cases h3 : f = 5
      · subst h3
        go_enter Try.func75, Try.ntmps75
        go_wp2_with (first | (go_at_call 84; refine (byCore_any _ _).mono ?_; rintro e w' ⟨rfl, rfl⟩) | (go_at_call 74; refine (coreOk_any _ _).mono ?_; rintro e w' ⟨rfl, rfl⟩) | (go_at_call 85; refine (byPort_any _ _).mono ?_; rintro e w' ⟨rfl, rfl⟩))
        go_ret
        exact ⟨rfl, rfl⟩
      · have h3b : (f == 5) = false := beq_false_of_ne h3
        have HV : Hid (((false && betw f 0 3) || (true && decide (f = 5))) = false) := by unfold Hid; simp [h3]
        rw [HV.out]
        go_enter Try.func75, Try.ntmps75
        go_wp2_with (first | (go_at_call 84; refine (byCore_any _ _).mono ?_; rintro e w' ⟨rfl, rfl⟩) | (go_at_call 74; refine (coreOk_any _ _).mono ?_; rintro e w' ⟨rfl, rfl⟩) | (go_at_call 85; refine (byPort_any _ _).mono ?_; rintro e w' ⟨rfl, rfl⟩))
        go_ret
        exact ⟨rfl, rfl⟩
  · cases h2 : betw f 0 3
    · cases h4 : pby k
      · go_enter Try.func75, Try.ntmps75
        go_wp2_with (first | (go_at_call 84; refine (byCore_any _ _).mono ?_; rintro e w' ⟨rfl, rfl⟩) | (go_at_call 74; refine (coreOk_any _ _).mono ?_; rintro e w' ⟨rfl, rfl⟩) | (go_at_call 85; refine (byPort_any _ _).mono ?_; rintro e w' ⟨rfl, rfl⟩))
        go_ret
        exact ⟨rfl, rfl⟩
      · exfalso
        simp [cby, pby] at h1 h4
        omega
    · go_enter Try.func75, Try.ntmps75
      go_wp2_with (first | (go_at_call 84; refine (byCore_any _ _).mono ?_; rintro e w' ⟨rfl, rfl⟩) | (go_at_call 74; refine (coreOk_any _ _).mono ?_; rintro e w' ⟨rfl, rfl⟩) | (go_at_call 85; refine (byPort_any _ _).mono ?_; rintro e w' ⟨rfl, rfl⟩))
      go_ret
      exact ⟨rfl, rfl⟩
theorem leftOk_any (k l : Int) (w : World) : Calls Try.prog 76 #[.int .i64 k, .int .i64 l] w fun e w' => e = .returned (.bool (leftB k l)) ∧ w' = w := by
  unfold leftB
  cases h1 : pby k
  · go_enter Try.func76, Try.ntmps76
    go_wp2_with (first | (go_at_call 85; refine (byPort_any _ _).mono ?_; rintro e w' ⟨rfl, rfl⟩) | (go_at_call 53; refine (between_any _ _ _ _).mono ?_; rintro e w' ⟨rfl, rfl⟩))
    go_ret
    exact ⟨rfl, rfl⟩
  · go_enter Try.func76, Try.ntmps76
    go_wp2_with (first | (go_at_call 85; refine (byPort_any _ _).mono ?_; rintro e w' ⟨rfl, rfl⟩) | (go_at_call 53; refine (between_any _ _ _ _).mono ?_; rintro e w' ⟨rfl, rfl⟩))
    go_ret
    exact ⟨rfl, rfl⟩
set_option maxHeartbeats 2000000 in
theorem holdersOk_any (o s k f l m : Int) (b : Bool) (d : List Int) (a : Option Addr) (cap : Nat) (w : World) :
    Calls Try.prog 65 #[.agg #[.int .i64 o, .int .i64 s, .bool b, .int .i64 k, .int .i64 f, .int .i64 l, .int .i64 m, .slice a d.length cap]] w fun e w' => e = .returned (.bool (whoI o s)) ∧ Below w.heap.size w w' := by
  have HB : Hid _ := box_below w
  cases h1 : betw o 0 3
  · by_cases h2 : o = -1
    · subst h2
      have HV : Hid (whoI (-1) s = betw s 0 15) := by unfold Hid whoI; simp [h1]
      rw [HV.out]
      go_enter Try.func65, Try.ntmps65
      go_wp2_with (first | (go_at_call 74; refine (coreOk_any _ _).mono ?_; rintro e w' ⟨rfl, rfl⟩) | (go_at_call 53; refine (between_any _ _ _ _).mono ?_; rintro e w' ⟨rfl, rfl⟩))
      go_ret
      exact ⟨rfl, HB.out _⟩
    · have h2b : (o == -1) = false := beq_false_of_ne h2
      have HV : Hid (whoI o s = false) := by unfold Hid whoI; simp [h1, h2]
      rw [HV.out]
      go_enter Try.func65, Try.ntmps65
      go_wp2_with (first | (go_at_call 74; refine (coreOk_any _ _).mono ?_; rintro e w' ⟨rfl, rfl⟩) | (go_at_call 53; refine (between_any _ _ _ _).mono ?_; rintro e w' ⟨rfl, rfl⟩))
      go_ret
      exact ⟨rfl, HB.out _⟩
  · by_cases h2 : s = 0
    · subst h2
      have HV : Hid (whoI o 0 = true) := by unfold Hid whoI; simp [h1]
      rw [HV.out]
      go_enter Try.func65, Try.ntmps65
      go_wp2_with (first | (go_at_call 74; refine (coreOk_any _ _).mono ?_; rintro e w' ⟨rfl, rfl⟩) | (go_at_call 53; refine (between_any _ _ _ _).mono ?_; rintro e w' ⟨rfl, rfl⟩))
      go_ret
      exact ⟨rfl, HB.out _⟩
    · have h2b : (s == 0) = false := beq_false_of_ne h2
      have HV : Hid (whoI o s = false) := by unfold Hid whoI; simp [h1, h2]
      rw [HV.out]
      go_enter Try.func65, Try.ntmps65
      go_wp2_with (first | (go_at_call 74; refine (coreOk_any _ _).mono ?_; rintro e w' ⟨rfl, rfl⟩) | (go_at_call 53; refine (between_any _ _ _ _).mono ?_; rintro e w' ⟨rfl, rfl⟩))
      go_ret
      exact ⟨rfl, HB.out _⟩
theorem req_not {k f l : Int} (h : ¬ k = 0 ∨ ¬ f = 0 ∨ ¬ l = 0) : reqI false k f l = false := by
  unfold reqI
  rw [if_neg (by decide)]
  rcases h with h | h | h <;> simp [h]
set_option maxHeartbeats 4000000 in
theorem requestOk_any (o s k f l m : Int) (b : Bool) (d : List Int) (a : Option Addr) (cap : Nat) (w : World) :
    Calls Try.prog 66 #[.agg #[.int .i64 o, .int .i64 s, .bool b, .int .i64 k, .int .i64 f, .int .i64 l, .int .i64 m, .slice a d.length cap]] w fun e w' => e = .returned (.bool (reqI b k f l)) ∧ Below w.heap.size w w' := by
  have HB : Hid _ := box_below w
  cases b
  · skip
    by_cases hk : k = 0
    · subst hk
      by_cases hf : f = 0
      · subst hf
        by_cases hl : l = 0
        · subst hl
          go_enter Try.func66, Try.ntmps66
          go_wp2_with (first | (go_at_call 75; refine (askerOk_any _ _ _).mono ?_; rintro e w' ⟨rfl, rfl⟩) | (go_at_call 76; refine (leftOk_any _ _ _).mono ?_; rintro e w' ⟨rfl, rfl⟩))
          go_ret
          exact ⟨rfl, HB.out _⟩
        · have hlb : (l == 0) = false := beq_false_of_ne hl
          have HV : Hid (reqI false 0 0 l = false) := req_not (.inr (.inr hl))
          rw [HV.out]
          go_enter Try.func66, Try.ntmps66
          go_wp2_with (first | (go_at_call 75; refine (askerOk_any _ _ _).mono ?_; rintro e w' ⟨rfl, rfl⟩) | (go_at_call 76; refine (leftOk_any _ _ _).mono ?_; rintro e w' ⟨rfl, rfl⟩))
          go_ret
          exact ⟨rfl, HB.out _⟩
      · have hfb : (f == 0) = false := beq_false_of_ne hf
        have HV : Hid (reqI false 0 f l = false) := req_not (.inr (.inl hf))
        rw [HV.out]
        go_enter Try.func66, Try.ntmps66
        go_wp2_with (first | (go_at_call 75; refine (askerOk_any _ _ _).mono ?_; rintro e w' ⟨rfl, rfl⟩) | (go_at_call 76; refine (leftOk_any _ _ _).mono ?_; rintro e w' ⟨rfl, rfl⟩))
        go_ret
        exact ⟨rfl, HB.out _⟩
    · have hkb : (k == 0) = false := beq_false_of_ne hk
      have HV : Hid (reqI false k f l = false) := req_not (.inl hk)
      rw [HV.out]
      go_enter Try.func66, Try.ntmps66
      go_wp2_with (first | (go_at_call 75; refine (askerOk_any _ _ _).mono ?_; rintro e w' ⟨rfl, rfl⟩) | (go_at_call 76; refine (leftOk_any _ _ _).mono ?_; rintro e w' ⟨rfl, rfl⟩))
      go_ret
      exact ⟨rfl, HB.out _⟩
  · cases h1 : askB k f
    · have HV : Hid (reqI true k f l = false) := by unfold Hid reqI; simp [h1]
      rw [HV.out]
      go_enter Try.func66, Try.ntmps66
      go_wp2_with (first | (go_at_call 75; refine (askerOk_any _ _ _).mono ?_; rintro e w' ⟨rfl, rfl⟩) | (go_at_call 76; refine (leftOk_any _ _ _).mono ?_; rintro e w' ⟨rfl, rfl⟩))
      go_ret
      exact ⟨rfl, HB.out _⟩
    · have HV : Hid (reqI true k f l = leftB k l) := by unfold Hid reqI; simp [h1]
      rw [HV.out]
      go_enter Try.func66, Try.ntmps66
      go_wp2_with (first | (go_at_call 75; refine (askerOk_any _ _ _).mono ?_; rintro e w' ⟨rfl, rfl⟩) | (go_at_call 76; refine (leftOk_any _ _ _).mono ?_; rintro e w' ⟨rfl, rfl⟩))
      go_ret
      exact ⟨rfl, HB.out _⟩
set_option maxHeartbeats 4000000 in
theorem dataOk_any (o s k f l m : Int) (b : Bool) (d : List Int) (a : Option Addr) (cap : Nat) (w : World) (h : SlRd intR w a d) :
    Calls Try.prog 67 #[.agg #[.int .i64 o, .int .i64 s, .bool b, .int .i64 k, .int .i64 f, .int .i64 l, .int .i64 m, .slice a d.length cap]] w fun e w' => e = .returned (.bool (datI k m d)) ∧ Below w.heap.size w w' := by
  have HB : Hid _ := box_below w
  have HL : Hid (∀ W, Below w.heap.size w W → Calls Try.prog 62 #[.slice a d.length cap] W fun e w' => e = .returned (.bool (isL d)) ∧ Below W.heap.size W w') := fun W hb => implLineOk_any a d cap W (reads_of (slrd_next h hb))
  clear h
  by_cases h1 : k = 4
  · subst h1
    cases h2 : betw m 0 3
    · have HV : Hid (datI 4 m d = false) := by unfold Hid datI; simp [h2]
      rw [HV.out]
      go_enter Try.func67, Try.ntmps67
      go_wp2_with (first | (go_at_call 77; refine (maskOk_any _ _).mono ?_; rintro e w' ⟨rfl, rfl⟩) | (go_at_call 62; refine (HL.out _ (HB.out _)).mono ?_; rintro e w' ⟨rfl, hb⟩))
      go_ret
      exact ⟨rfl, HB.out _⟩
    · have HV : Hid (datI 4 m d = isL d) := by unfold Hid datI; simp [h2]
      rw [HV.out]
      go_enter Try.func67, Try.ntmps67
      go_wp2_with (first | (go_at_call 77; refine (maskOk_any _ _).mono ?_; rintro e w' ⟨rfl, rfl⟩) | (go_at_call 62; refine (HL.out _ (HB.out _)).mono ?_; rintro e w' ⟨rfl, hb⟩))
      go_ret
      exact ⟨rfl, below_step (HB.out _) hb⟩
  · have h1b : (k == 4) = false := beq_false_of_ne h1
    clear HL
    by_cases h2 : m = 0
    · subst h2
      by_cases h9 : d.length = 0
      · have hz5 : d = [] := List.eq_nil_of_length_eq_zero h9
        subst hz5
        have HV : Hid (datI k 0 ([] : List Int) = true) := by unfold Hid datI; simp [h1]
        rw [HV.out]
        go_enter Try.func67, Try.ntmps67
        go_wp2_with (first | (go_at_call 77; refine (maskOk_any _ _).mono ?_; rintro e w' ⟨rfl, rfl⟩))
        go_ret
        exact ⟨rfl, HB.out _⟩
      · have hz4 : ¬ (d = []) := fun e => h9 (by rw [e]; rfl)
        have hz : ¬ ((d.length : Int) = 0) := by omega
        have hz2 : ((d.length : Int) == 0) = false := beq_false_of_ne hz
        have HV : Hid (datI k 0 d = false) := by unfold Hid datI; simp [h1, h9]
        rw [HV.out]
        go_enter Try.func67, Try.ntmps67
        go_wp2_with (first | (go_at_call 77; refine (maskOk_any _ _).mono ?_; rintro e w' ⟨rfl, rfl⟩))
        go_ret
        exact ⟨rfl, HB.out _⟩
    · have h2b : (m == 0) = false := beq_false_of_ne h2
      have HV : Hid (datI k m d = false) := by unfold Hid datI; simp [h1, h2]
      rw [HV.out]
      go_enter Try.func67, Try.ntmps67
      go_wp2_with (first | (go_at_call 77; refine (maskOk_any _ _).mono ?_; rintro e w' ⟨rfl, rfl⟩))
      go_ret
      exact ⟨rfl, HB.out _⟩
set_option maxHeartbeats 4000000 in
theorem implEntryOk_any (o s k f l m : Int) (b : Bool) (d : List Int) (a : Option Addr) (cap : Nat) (w : World) (h : SlRd intR w a d) :
    Calls Try.prog 51 #[.agg #[.int .i64 o, .int .i64 s, .bool b, .int .i64 k, .int .i64 f, .int .i64 l, .int .i64 m, .slice a d.length cap]] w fun e w' => e = .returned (.bool (entB (o, s, b, k, f, l, m, d))) ∧ Below w.heap.size w w' := by
  have X := heap_at w (.cells #[.int .i64 o, .int .i64 s, .bool b, .int .i64 k, .int .i64 f, .int .i64 l, .int .i64 m, .slice a d.length cap] 48)
  have B := box_below w (.cells #[.int .i64 o, .int .i64 s, .bool b, .int .i64 k, .int .i64 f, .int .i64 l, .int .i64 m, .slice a d.length cap] 48)
  have HD : Hid (∀ W, Below w.heap.size w W → Calls Try.prog 67 #[.agg #[.int .i64 o, .int .i64 s, .bool b, .int .i64 k, .int .i64 f, .int .i64 l, .int .i64 m, .slice a d.length cap]] W fun e w' => e = .returned (.bool (datI k m d)) ∧ Below W.heap.size W w') := fun W hb => dataOk_any o s k f l m b d a cap W (slrd_next h hb)
  have HR : Hid (∀ W, Calls Try.prog 66 #[.agg #[.int .i64 o, .int .i64 s, .bool b, .int .i64 k, .int .i64 f, .int .i64 l, .int .i64 m, .slice a d.length cap]] W fun e w' => e = .returned (.bool (reqI b k f l)) ∧ Below W.heap.size W w') := fun W => requestOk_any o s k f l m b d a cap W
  have HH : Hid (∀ W, Calls Try.prog 65 #[.agg #[.int .i64 o, .int .i64 s, .bool b, .int .i64 k, .int .i64 f, .int .i64 l, .int .i64 m, .slice a d.length cap]] W fun e w' => e = .returned (.bool (whoI o s)) ∧ Below W.heap.size W w') := fun W => holdersOk_any o s k f l m b d a cap W
  clear h
  rw [ent_parts]
  generalize whoI o s = p at HH ⊢
  generalize reqI b k f l = q at HR ⊢
  generalize datI k m d = r at HD ⊢
  go_enter Try.func51, Try.ntmps51
  go_wp2_with fail
  generalize w.alloc (.cells #[.int .i64 o, .int .i64 s, .bool b, .int .i64 k, .int .i64 f, .int .i64 l, .int .i64 m, .slice a d.length cap] 48) = W0 at X B ⊢
  refine (HH.out _).mono ?_
  rintro e w1 ⟨rfl, b1⟩
  replace X := row_keep b1 X
  replace B := below_step B b1
  obtain ⟨x0, x1, x2, x3, x4, x5, x6, x7⟩ := cells_8 X
  clear b1 HH
  cases p
  · clear HR HD X
    go_wp2_with fail
    go_ret
    exact ⟨rfl, B⟩
  · go_wp2_with fail
    refine (HR.out _).mono ?_
    rintro e w2 ⟨rfl, b2⟩
    clear x0 x1 x2 x3 x4 x5 x6 x7 HR
    replace X := row_keep b2 X
    replace B := below_step B b2
    obtain ⟨x0, x1, x2, x3, x4, x5, x6, x7⟩ := cells_8 X
    clear b2
    cases q
    · clear HD X
      go_wp2_with fail
      go_ret
      exact ⟨rfl, B⟩
    · go_wp2_with fail
      refine (HD.out _ B).mono ?_
      rintro e w3 ⟨rfl, b3⟩
      replace B := below_step B b3
      clear b3 HD X x0 x1 x2 x3 x4 x5 x6 x7
      go_wp2_with fail
      go_ret
      exact ⟨rfl, B⟩
end Go.Proofs.Ytcnnojfkpkmdmaa
