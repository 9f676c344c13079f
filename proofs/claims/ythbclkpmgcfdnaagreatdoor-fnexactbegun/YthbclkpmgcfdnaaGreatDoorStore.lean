
/- Store. -/
import Derived.Test.YthbclkpmgcfdnaaGreatDoorJLines614Iters
import Derived.Test.YthbclkpmgcfdnaaGreatDoorTree
/- The contracts of one way: empty, full; of the program and of the specification. Conditions: lists that read as told. -/
namespace Go.Proofs.YthbclkpmgcfdnaaGreatDoor
open Go.ChangeShapes Go.WideShapes Go.ChangeAt Go.RowKit Go.Shelf
set_option linter.unusedVariables false
set_option maxHeartbeats 400000 in
theorem lineNumberOk_any (k : Int) (w : World) : Calls Tryz.prog 76 #[.int .i64 k] w fun e w' => e = .returned (.bool (betw k 0 15)) ∧ w' = w := by
  go_enter Tryz.func76, Tryz.ntmps76
  go_wp2_with (go_at_call 104; refine (between_any _ _ _ _).mono ?_; rintro e w' ⟨rfl, rfl⟩)
  go_ret
  exact ⟨rfl, rfl⟩
def clrB (l s : Int) (n : Nat) : Bool := decide (l = -1 ∧ s = 0 ∧ n = 0)
theorem clr_eq (u : WayD) : clrB u.1 u.2.1 u.2.2.length = clearB u := by
  simp [clrB, clearB]
set_option maxHeartbeats 400000 in
theorem implEmpty_any (l s : Int) (a : Option Addr) (n cap : Nat) (w : World) (hn : n ≤ maxLen) :
    Calls Tryz.prog 129 #[.agg #[.int .i64 l, .int .i64 s, .slice a n cap]] w fun e w' => e = .returned (.bool (clrB l s n)) ∧ Below w.heap.size w w' := by
  have hn' : n ≤ 9223372036854775807 := hn
  clear hn
  by_cases h1 : l = -1
  · by_cases h2 : s = 0
    · by_cases h3 : n = 0
      · have H : Hid (clrB l s n = true) := by simp [Hid, clrB, h1, h2, h3]
        subst h1 h2 h3
        go_enter Tryz.func129, Tryz.ntmps129
        go_wp2
        go_ret
        exact ⟨ret_bool H.out.symm, box_below w _⟩
      · have H : Hid (clrB l s n = false) := by simp [Hid, clrB, h3]
        have h3' : ((n : Int) == 0) = false := by simp; omega
        subst h1 h2
        go_enter Tryz.func129, Tryz.ntmps129
        go_wp2
        go_ret
        exact ⟨ret_bool H.out.symm, box_below w _⟩
    · have H : Hid (clrB l s n = false) := by simp [Hid, clrB, h2]
      have h2' : (s == 0) = false := by simpa using h2
      subst h1
      go_enter Tryz.func129, Tryz.ntmps129
      go_wp2
      go_ret
      exact ⟨ret_bool H.out.symm, box_below w _⟩
  · have H : Hid (clrB l s n = false) := by simp [Hid, clrB, h1]
    have h1' : (l == -1) = false := by simpa using h1
    go_enter Tryz.func129, Tryz.ntmps129
    go_wp2
    go_ret
    exact ⟨ret_bool H.out.symm, box_below w _⟩
set_option maxHeartbeats 400000 in
theorem l6Clear_any (l s : Int) (a : Option Addr) (n cap : Nat) (w : World) (hn : n ≤ maxLen) :
    Calls Tryz.prog 65 #[.agg #[.int .i64 l, .int .i64 s, .slice a n cap]] w fun e w' => e = .returned (.bool (clrB l s n)) ∧ Below w.heap.size w w' := by
  have hn' : n ≤ 9223372036854775807 := hn
  clear hn
  by_cases h1 : l = -1
  · by_cases h2 : s = 0
    · by_cases h3 : n = 0
      · have H : Hid (clrB l s n = true) := by simp [Hid, clrB, h1, h2, h3]
        subst h1 h2 h3
        go_enter Tryz.func65, Tryz.ntmps65
        go_wp2
        go_ret
        exact ⟨ret_bool H.out.symm, box_below w _⟩
      · have H : Hid (clrB l s n = false) := by simp [Hid, clrB, h3]
        have h3' : ((n : Int) == 0) = false := by simp; omega
        subst h1 h2
        go_enter Tryz.func65, Tryz.ntmps65
        go_wp2
        go_ret
        exact ⟨ret_bool H.out.symm, box_below w _⟩
    · have H : Hid (clrB l s n = false) := by simp [Hid, clrB, h2]
      have h2' : (s == 0) = false := by simpa using h2
      subst h1
      go_enter Tryz.func65, Tryz.ntmps65
      go_wp2
      go_ret
      exact ⟨ret_bool H.out.symm, box_below w _⟩
  · have H : Hid (clrB l s n = false) := by simp [Hid, clrB, h1]
    have h1' : (l == -1) = false := by simpa using h1
    go_enter Tryz.func65, Tryz.ntmps65
    go_wp2
    go_ret
    exact ⟨ret_bool H.out.symm, box_below w _⟩
theorem full_eq (ln : List Int → Bool) (u : WayD) : fullB ln u = (betw u.1 0 15 && (betw u.2.1 1 3 && ln u.2.2)) := by
  simp [fullB, betw, Bool.decide_and]
set_option maxHeartbeats 400000 in
theorem implFull_any (l s : Int) (d : List Int) (a : Option Addr) (cap : Nat) (w : World) (h : SlRd intR w a d) :
    Calls Tryz.prog 131 #[.agg #[.int .i64 l, .int .i64 s, .slice a d.length cap]] w fun e w' => e = .returned (.bool (fullB isL (l, s, d))) ∧ Below w.heap.size w w' := by
  rw [full_eq]
  have HB : Hid _ := box_below w
  have hr : Hid (∀ o, Reads (w.alloc o) a d) := fun o => reads_of (slrd_next h (box_below w o))
  clear h
  cases h1 : betw l 0 15
  · go_enter Tryz.func131, Tryz.ntmps131
    go_wp2_with (go_at_call 76; refine (lineNumberOk_any _ _).mono ?_; rintro e w' ⟨rfl, rfl⟩)
    go_ret
    exact ⟨rfl, HB.out _⟩
  · cases h2 : betw s 1 3
    · go_enter Tryz.func131, Tryz.ntmps131
      go_wp2_with (first
        | (go_at_call 76; refine (lineNumberOk_any _ _).mono ?_; rintro e w' ⟨rfl, rfl⟩)
        | (go_at_call 104; refine (between_any _ _ _ _).mono ?_; rintro e w' ⟨rfl, rfl⟩))
      go_ret
      exact ⟨rfl, HB.out _⟩
    · go_enter Tryz.func131, Tryz.ntmps131
      go_wp2_with (first
        | (go_at_call 76; refine (lineNumberOk_any _ _).mono ?_; rintro e w' ⟨rfl, rfl⟩)
        | (go_at_call 104; refine (between_any _ _ _ _).mono ?_; rintro e w' ⟨rfl, rfl⟩)
        | (go_at_call 177; refine (implLineOk_any _ d _ _ (hr.out _)).mono ?_; rintro e w' ⟨rfl, hb⟩))
      go_ret
      exact ⟨rfl, below_step (HB.out _) hb⟩
set_option maxHeartbeats 400000 in
theorem l6Full_any (l s : Int) (d : List Int) (a : Option Addr) (cap : Nat) (w : World) (h : SlRd intR w a d) :
    Calls Tryz.prog 66 #[.agg #[.int .i64 l, .int .i64 s, .slice a d.length cap]] w fun e w' => e = .returned (.bool (fullB isL (l, s, d))) ∧ Below w.heap.size w w' := by
  rw [full_eq]
  have HB : Hid _ := box_below w
  have hr : Hid (∀ o, Reads (w.alloc o) a d) := fun o => reads_of (slrd_next h (box_below w o))
  clear h
  cases h1 : betw l 0 15
  · go_enter Tryz.func66, Tryz.ntmps66
    go_wp2_with (go_at_call 54; refine (l1In_any _ _ _ _).mono ?_; rintro e w' ⟨rfl, rfl⟩)
    go_ret
    exact ⟨rfl, HB.out _⟩
  · cases h2 : betw s 1 3
    · go_enter Tryz.func66, Tryz.ntmps66
      go_wp2_with (go_at_call 54; refine (l1In_any _ _ _ _).mono ?_; rintro e w' ⟨rfl, rfl⟩)
      go_ret
      exact ⟨rfl, HB.out _⟩
    · go_enter Tryz.func66, Tryz.ntmps66
      go_wp2_with (first
        | (go_at_call 54; refine (l1In_any _ _ _ _).mono ?_; rintro e w' ⟨rfl, rfl⟩)
        | (go_at_call 136; refine (specLineOk_any _ d _ _ (hr.out _)).mono ?_; rintro e w' ⟨rfl, rfl⟩))
      go_ret
      exact ⟨rfl, HB.out _⟩

set_option maxHeartbeats 400000 in
theorem ways_any (b off s cap : Nat) (v : Value) (b1 : Option Addr) (n1 c1 : Nat) (hv : v = .slice b1 n1 c1) (a1 : Option Addr) (m cp : Nat) (w : World) (hs : 0 < s) (h : w.cell? ⟨b, off, none⟩ = some (.slice a1 m cp)) :
    Calls Tryz.prog 165 #[.agg #[.slice (some ⟨b, off, none⟩) s cap, v]] w fun e w' => e = .returned (.int .i64 m) ∧ Below w.heap.size w w' := by
  subst hv
  have l0 := World.block_lt_of_cell? w _ h
  simp only at l0
  have HB : Hid _ := box_below w
  go_enter Tryz.func165, Tryz.ntmps165
  go_wp2
  go_ret
  exact ⟨rfl, HB.out _⟩

set_option maxHeartbeats 400000 in
theorem setOf_any (a : Option Addr) (s cap : Nat) (v : Value) (b1 : Option Addr) (n1 c1 : Nat) (hv : v = .slice b1 n1 c1) (line : Int) (w : World) (hs : s = 1 ∨ s = 2 ∨ s = 4) (h0 : 0 ≤ line) :
    Calls Tryz.prog 175 #[.agg #[.slice a s cap, v], .int .i64 line] w fun e w' => e = .returned (.int .i64 (line % (s : Int))) ∧ Below w.heap.size w w' := by
  subst hv
  have HB : Hid _ := box_below w
  rcases hs with rfl | rfl | rfl
  all_goals
    go_enter Tryz.func175, Tryz.ntmps175
    go_wp2
    go_ret
    exact ⟨ret_int (by omega), HB.out _⟩
end Go.Proofs.YthbclkpmgcfdnaaGreatDoor
