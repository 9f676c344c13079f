import Derived.Test.YtdamokokcdcedaaGreatDoorE00Box
import Derived.WalkMore
import Derived.ScopeJumps
import Derived.Test.YtdamokokcdcedaaGreatDoorE08
namespace Go.Proofs.YtdamokokcdcedaaGreatDoor
set_option maxHeartbeats 400000
open Go.ChangeShapes Go.WideShapes Go.ChangeAt Go.RowKit
theorem l3Word_any (k : Int) (w : World) : Calls Tryz.prog 185 #[nI k] w fun e a => e = .returned (.bool (okW k)) ∧ a = w := by
 go_enter Tryz.func185, Tryz.ntmps185;go_wp2_with (go_at_call 126; refine (l1In_any _ _ _ _).mono ?_; rintro e a ⟨rfl, rfl⟩)
 go_ret
 exact ⟨rfl, rfl⟩
theorem specLineOk_not (a : Option Addr) (n cap : Nat) (w : World) (hn : n ≠ 2) :
    Calls Tryz.prog 131 #[sL a n cap] w fun e w' => e = .returned (.bool false) ∧ w' = w := by
 have b : ((n : Int) == 2) = false := by simp; omega
 go_enter Tryz.func131, Tryz.ntmps131;go_wp2;go_ret
 exact ⟨rfl, rfl⟩
theorem specLineOk_two (a : Option Addr) (x y : Int) (cap : Nat) (w : World) (h : Reads w a [x, y]) :
    Calls Tryz.prog 131 #[sL a 2 cap] w fun e c => e = .returned (.bool (okW x && okW y)) ∧ c = w := by
 obtain ⟨b, d, rfl, c0, c1⟩ := reads_two h;clear h;cases hx : okW x <;> cases hy : okW y
 all_goals
  go_enter Tryz.func131, Tryz.ntmps131;go_wp2_with (go_at_call 185; refine (l3Word_any _ _).mono ?_; rintro e c ⟨rfl, rfl⟩)
  go_ret
  exact ⟨rfl, rfl⟩
theorem specLineOk_any (a : Option Addr) (xs : List Int) (cap : Nat) (w : World) (h : Reads w a xs) :
    Calls Tryz.prog 131 #[sL a xs.length cap] w fun e w' => e = .returned (.bool (isL xs)) ∧ w' = w := by
 match xs with
 | [x, y] => exact specLineOk_two a x y cap w h
 | [] => exact specLineOk_not a 0 cap w (by simp)
 | [_] => exact specLineOk_not a 1 cap w (by simp)
 | _ :: _ :: _ :: r => exact specLineOk_not a (r.length + 1 + 1 + 1) cap w (by omega)
def orI (s i : Int) : Int := bits BinOp.or IntKind.i64 s (2 ^ i.toNat)
def andNotI (s i : Int) : Int := bits BinOp.andNot IntKind.i64 s (2 ^ i.toNat)
def withI (s i : Int) : Int := if setB s then (if itemB i then orI s i else s) else -1
def withoutI (s i : Int) : Int := if setB s then (if itemB i then andNotI s i else s) else -1
theorem specWith_any (s i : Int) (w : World) :
    Calls Tryz.prog 55 #[nI s, nI i] w fun e a => e = .returned (nI (withI s i)) ∧ a = w := by
 cases b : setB s
 ·have H : Hid (withI s i = -1) := by unfold Hid; simp [withI, b]
  go_enter Tryz.func55, Tryz.ntmps55;go_wp2_with (go_at_call 109; refine (l1Set_any _ _).mono ?_; rintro e a ⟨rfl, rfl⟩)
  go_ret
  exact ⟨ret_int H.out.symm, rfl⟩
 ·cases c : itemB i
  ·have H : Hid (withI s i = s) := by unfold Hid; simp [withI, b, c]
   go_enter Tryz.func55, Tryz.ntmps55
   go_wp2_with (first
    | (go_at_call 109; refine (l1Set_any _ _).mono ?_; rintro e a ⟨rfl, rfl⟩)
    | (go_at_call 110; refine (l1Item_any _ _).mono ?_; rintro e a ⟨rfl, rfl⟩))
   go_ret
   exact ⟨ret_int H.out.symm, rfl⟩
  ·obtain ⟨f, d⟩ := itemB_bd c;have H : Hid (withI s i = orI s i) := by unfold Hid; simp [withI, b, c]
   have P : Hid (wrap64 (2 ^ i.toNat) = 2 ^ i.toNat) := pow_small i f d;go_enter Tryz.func55, Tryz.ntmps55
   go_wp2_with (first
    | (go_at_call 109; refine (l1Set_any _ _).mono ?_; rintro e a ⟨rfl, rfl⟩)
    | (go_at_call 110; refine (l1Item_any _ _).mono ?_; rintro e a ⟨rfl, rfl⟩))
   go_ret
   exact ⟨ret_int (by rw [H.out, P.out]; rfl), rfl⟩
def powB (n : Int) : Bool := decide (n = 1 ∨ n = 2 ∨ n = 4)
theorem sizeOk_any (n : Int) (w : World) :
    Calls Tryz.prog 188 #[nI n] w fun e w' => e = .returned (.bool (powB n)) ∧ w' = w := by
 go_enter Tryz.func188, Tryz.ntmps188;go_wp2
 all_goals go_ret
 all_goals refine ⟨ret_bool ?_, rfl⟩
 all_goals first | (simp_all [powB]; done) | (rw [Bool.eq_iff_iff]; simp [powB]; omega)
theorem l2Pow_any (n : Int) (w : World) :
    Calls Tryz.prog 127 #[nI n] w fun e w' => e = .returned (.bool (powB n)) ∧ w' = w := by
 go_enter Tryz.func127, Tryz.ntmps127;go_wp2
 all_goals go_ret
 all_goals refine ⟨ret_bool ?_, rfl⟩
 all_goals first | (simp_all [powB]; done) | (rw [Bool.eq_iff_iff]; simp [powB]; omega)
def treeB (t n : Int) : Bool := decide ((n = 1 ∧ t = 0) ∨ (n = 2 ∧ 0 ≤ t ∧ t ≤ 1) ∨ (n = 4 ∧ 0 ≤ t ∧ t ≤ 7))
theorem lastTree_1 (w : World) : Calls Tryz.prog 291 #[nI 1] w fun e w' => e = .returned (nI 0) ∧ w' = w := by
 go_enter Tryz.func291, Tryz.ntmps291;go_wp2;go_ret
 exact ⟨rfl, rfl⟩
theorem lastTree_2 (w : World) : Calls Tryz.prog 291 #[nI 2] w fun e w' => e = .returned (nI 1) ∧ w' = w := by
 go_enter Tryz.func291, Tryz.ntmps291;go_wp2;go_ret
 exact ⟨rfl, rfl⟩
theorem lastTree_4 (w : World) : Calls Tryz.prog 291 #[nI 4] w fun e w' => e = .returned (nI 7) ∧ w' = w := by
 go_enter Tryz.func291, Tryz.ntmps291;go_wp2;go_ret
 exact ⟨rfl, rfl⟩
theorem implTreeOk_any (t n : Int) (w : World) :
    Calls Tryz.prog 275 #[nI t, nI n] w fun e a => e = .returned (.bool (treeB t n)) ∧ a = w := by
 cases h : powB n
 ·have H : Hid (treeB t n = false) := by
    unfold Hid;simp [powB] at h
    simp [treeB]
    omega
  go_enter Tryz.func275, Tryz.ntmps275;go_wp2_with (go_at_call 188; refine (sizeOk_any _ _).mono ?_; rintro e a ⟨rfl, rfl⟩)
  go_ret
  exact ⟨ret_bool H.out.symm, rfl⟩
 ·have b : n = 1 ∨ n = 2 ∨ n = 4 := by simpa [powB] using h
  rcases b with rfl | rfl | rfl
  ·have H : Hid (treeB t 1 = betw t 0 0) := by
     unfold Hid;rw [Bool.eq_iff_iff];simp [treeB, betw]
     omega
   go_enter Tryz.func275, Tryz.ntmps275
   go_wp2_with (first
    | (go_at_call 188; refine (sizeOk_any _ _).mono ?_; rintro e a ⟨rfl, rfl⟩)
    | (go_at_call 291; refine (lastTree_1 _).mono ?_; rintro e a ⟨rfl, rfl⟩)
    | (go_at_call 156; refine (between_any _ _ _ _).mono ?_; rintro e a ⟨rfl, rfl⟩))
   go_ret
   exact ⟨ret_bool H.out.symm, rfl⟩
  ·have H : Hid (treeB t 2 = betw t 0 1) := by
     unfold Hid;rw [Bool.eq_iff_iff];simp [treeB, betw]
   go_enter Tryz.func275, Tryz.ntmps275
   go_wp2_with (first
    | (go_at_call 188; refine (sizeOk_any _ _).mono ?_; rintro e a ⟨rfl, rfl⟩)
    | (go_at_call 291; refine (lastTree_2 _).mono ?_; rintro e a ⟨rfl, rfl⟩)
    | (go_at_call 156; refine (between_any _ _ _ _).mono ?_; rintro e a ⟨rfl, rfl⟩))
   go_ret
   exact ⟨ret_bool H.out.symm, rfl⟩
  ·have H : Hid (treeB t 4 = betw t 0 7) := by
     unfold Hid;rw [Bool.eq_iff_iff];simp [treeB, betw]
   go_enter Tryz.func275, Tryz.ntmps275
   go_wp2_with (first
    | (go_at_call 188; refine (sizeOk_any _ _).mono ?_; rintro e a ⟨rfl, rfl⟩)
    | (go_at_call 291; refine (lastTree_4 _).mono ?_; rintro e a ⟨rfl, rfl⟩)
    | (go_at_call 156; refine (between_any _ _ _ _).mono ?_; rintro e a ⟨rfl, rfl⟩))
   go_ret
   exact ⟨ret_bool H.out.symm, rfl⟩
theorem specTreeOk_any (t n : Int) (w : World) :
    Calls Tryz.prog 186 #[nI t, nI n] w fun e a => e = .returned (.bool (treeB t n)) ∧ a = w := by
 by_cases c : n = 1
 ·subst c;have H : Hid (treeB t 1 = (t == 0)) := by
   unfold Hid;rw [Bool.eq_iff_iff];simp [treeB]
  go_enter Tryz.func186, Tryz.ntmps186;go_wp2_with fail
  go_ret
  exact ⟨ret_bool H.out.symm, rfl⟩
 by_cases d : n = 2
 ·subst d;have H : Hid (treeB t 2 = betw t 0 1) := by
   unfold Hid;rw [Bool.eq_iff_iff];simp [treeB, betw]
  go_enter Tryz.func186, Tryz.ntmps186;go_wp2_with (go_at_call 126; refine (l1In_any _ _ _ _).mono ?_; rintro e a ⟨rfl, rfl⟩)
  go_ret
  exact ⟨ret_bool H.out.symm, rfl⟩
 by_cases b : n = 4
 ·subst b;have H : Hid (treeB t 4 = betw t 0 7) := by
   unfold Hid;rw [Bool.eq_iff_iff];simp [treeB, betw]
  go_enter Tryz.func186, Tryz.ntmps186;go_wp2_with (go_at_call 126; refine (l1In_any _ _ _ _).mono ?_; rintro e a ⟨rfl, rfl⟩)
  go_ret
  exact ⟨ret_bool H.out.symm, rfl⟩
 have H : Hid (treeB t n = false) := by
  unfold Hid;simp [treeB]
  omega
 go_enter Tryz.func186, Tryz.ntmps186;go_wp2_with fail
 go_ret
 exact ⟨ret_bool H.out.symm, rfl⟩
end Go.Proofs.YtdamokokcdcedaaGreatDoor
namespace Go
end Go
namespace Go.Proofs.YtdamokokcdcedaaGreatDoor
open Go.ChangeShapes Go.WideShapes Go.ChangeAt Go.RowKit
theorem tree_pow {t n : Int} (h : treeB t n = true) : n = 1 ∨ n = 2 ∨ n = 4 := by
 simp [treeB] at h
 omega
def goI (t n : Int) : Int := if n = 1 then 0 else if n = 2 then t else 2 * (t % 2) + t / 2 ^ (1 + t % 2).toNat % 2
def viI (t n : Int) : Int := if treeB t n then goI t n else -1
open Go.ChangeShapes Go.WideShapes Go.ChangeAt Go.RowKit Go.Shelf
set_option linter.unusedVariables false
theorem lineNumberOk_any (k : Int) (w : World) : Calls Tryz.prog 245 #[nI k] w fun e a => e = .returned (.bool (betw k 0 15)) ∧ a = w := by
 go_enter Tryz.func245, Tryz.ntmps245;go_wp2_with (go_at_call 156; refine (between_any _ _ _ _).mono ?_; rintro e a ⟨rfl, rfl⟩)
 go_ret
 exact ⟨rfl, rfl⟩
def clrB (l s : Int) (n : Nat) : Bool := decide (l = -1 ∧ s = 0 ∧ n = 0)
theorem clr_eq (u : WayD) : clrB u.1 u.2.1 u.2.2.length = clearB u := by
 simp [clrB, clearB]
theorem implEmpty_any (l s : Int) (a : Option Addr) (n cap : Nat) (w : World) (hn : n ≤ maxLen) :
    Calls Tryz.prog 94 #[.agg #[nI l, nI s, sL a n cap]] w fun e w' => e = .returned (.bool (clrB l s n)) ∧ Bl w w' := by
 have j : n ≤ 9223372036854775807 := hn;clear hn;by_cases b : l = -1
 ·by_cases c : s = 0
  ·by_cases d : n = 0
   ·have H : Hid (clrB l s n = true) := by simp [Hid, clrB, b, c, d]
    subst b c d;go_enter Tryz.func94, Tryz.ntmps94;go_wp2;go_ret
    exact ⟨ret_bool H.out.symm, box_below w _⟩
   ·have H : Hid (clrB l s n = false) := by simp [Hid, clrB, d]
    have i : ((n : Int) == 0) = false := by simp; omega
    subst b c;go_enter Tryz.func94, Tryz.ntmps94;go_wp2;go_ret
    exact ⟨ret_bool H.out.symm, box_below w _⟩
  ·have H : Hid (clrB l s n = false) := by simp [Hid, clrB, c]
   have g : (s == 0) = false := by simpa using c
   subst b;go_enter Tryz.func94, Tryz.ntmps94;go_wp2;go_ret
   exact ⟨ret_bool H.out.symm, box_below w _⟩
 ·have H : Hid (clrB l s n = false) := by simp [Hid, clrB, b]
  have f : (l == -1) = false := by simpa using b
  go_enter Tryz.func94, Tryz.ntmps94;go_wp2;go_ret
  exact ⟨ret_bool H.out.symm, box_below w _⟩
theorem l6Clear_any (l s : Int) (a : Option Addr) (n cap : Nat) (w : World) (hn : n ≤ maxLen) :
    Calls Tryz.prog 58 #[.agg #[nI l, nI s, sL a n cap]] w fun e w' => e = .returned (.bool (clrB l s n)) ∧ Bl w w' := by
 have j : n ≤ 9223372036854775807 := hn;clear hn;by_cases b : l = -1
 ·by_cases c : s = 0
  ·by_cases d : n = 0
   ·have H : Hid (clrB l s n = true) := by simp [Hid, clrB, b, c, d]
    subst b c d;go_enter Tryz.func58, Tryz.ntmps58;go_wp2;go_ret
    exact ⟨ret_bool H.out.symm, box_below w _⟩
   ·have H : Hid (clrB l s n = false) := by simp [Hid, clrB, d]
    have i : ((n : Int) == 0) = false := by simp; omega
    subst b c;go_enter Tryz.func58, Tryz.ntmps58;go_wp2;go_ret
    exact ⟨ret_bool H.out.symm, box_below w _⟩
  ·have H : Hid (clrB l s n = false) := by simp [Hid, clrB, c]
   have g : (s == 0) = false := by simpa using c
   subst b;go_enter Tryz.func58, Tryz.ntmps58;go_wp2;go_ret
   exact ⟨ret_bool H.out.symm, box_below w _⟩
 ·have H : Hid (clrB l s n = false) := by simp [Hid, clrB, b]
  have f : (l == -1) = false := by simpa using b
  go_enter Tryz.func58, Tryz.ntmps58;go_wp2;go_ret
  exact ⟨ret_bool H.out.symm, box_below w _⟩
theorem full_eq (ln : List Int → Bool) (u : WayD) : fullB ln u = (betw u.1 0 15 && (betw u.2.1 1 3 && ln u.2.2)) := by
 simp [fullB, betw, Bool.decide_and]
theorem implFull_any (l s : Int) (d : List Int) (a : Option Addr) (cap : Nat) (w : World) (h : SlRd intR w a d) :
    Calls Tryz.prog 261 #[.agg #[nI l, nI s, sL a d.length cap]] w fun e b => e = .returned (.bool (fullB isL (l, s, d))) ∧ Bl w b := by
 rw [full_eq];have c : Hid _ := box_below w;have f : Hid (∀ o, Reads (w.alloc o) a d) := fun o => reads_of (slrd_next h (box_below w o));clear h;cases h1 : betw l 0 15
 ·go_enter Tryz.func261, Tryz.ntmps261;go_wp2_with (go_at_call 245; refine (lineNumberOk_any _ _).mono ?_; rintro e b ⟨rfl, rfl⟩)
  go_ret
  exact ⟨rfl, c.out _⟩
 ·cases h2 : betw s 1 3
  ·go_enter Tryz.func261, Tryz.ntmps261
   go_wp2_with (first
    | (go_at_call 245; refine (lineNumberOk_any _ _).mono ?_; rintro e b ⟨rfl, rfl⟩)
    | (go_at_call 156; refine (between_any _ _ _ _).mono ?_; rintro e b ⟨rfl, rfl⟩))
   go_ret
   exact ⟨rfl, c.out _⟩
  ·go_enter Tryz.func261, Tryz.ntmps261
   go_wp2_with (first
    | (go_at_call 245; refine (lineNumberOk_any _ _).mono ?_; rintro e b ⟨rfl, rfl⟩)
    | (go_at_call 156; refine (between_any _ _ _ _).mono ?_; rintro e b ⟨rfl, rfl⟩)
    | (go_at_call 91; refine (implLineOk_any _ d _ _ (f.out _)).mono ?_; rintro e b ⟨rfl, g⟩))
   go_ret
   exact ⟨rfl, below_step (c.out _) g⟩
theorem l6Full_any (l s : Int) (d : List Int) (a : Option Addr) (cap : Nat) (w : World) (h : SlRd intR w a d) :
    Calls Tryz.prog 135 #[.agg #[nI l, nI s, sL a d.length cap]] w fun e b => e = .returned (.bool (fullB isL (l, s, d))) ∧ Bl w b := by
 rw [full_eq];have c : Hid _ := box_below w;have f : Hid (∀ o, Reads (w.alloc o) a d) := fun o => reads_of (slrd_next h (box_below w o));clear h;cases h1 : betw l 0 15
 ·go_enter Tryz.func135, Tryz.ntmps135;go_wp2_with (go_at_call 126; refine (l1In_any _ _ _ _).mono ?_; rintro e b ⟨rfl, rfl⟩)
  go_ret
  exact ⟨rfl, c.out _⟩
 ·cases h2 : betw s 1 3
  ·go_enter Tryz.func135, Tryz.ntmps135;go_wp2_with (go_at_call 126; refine (l1In_any _ _ _ _).mono ?_; rintro e b ⟨rfl, rfl⟩)
   go_ret
   exact ⟨rfl, c.out _⟩
  ·go_enter Tryz.func135, Tryz.ntmps135
   go_wp2_with (first
    | (go_at_call 126; refine (l1In_any _ _ _ _).mono ?_; rintro e b ⟨rfl, rfl⟩)
    | (go_at_call 131; refine (specLineOk_any _ d _ _ (f.out _)).mono ?_; rintro e b ⟨rfl, rfl⟩))
   go_ret
   exact ⟨rfl, c.out _⟩
theorem ways_any (b off s cap : Nat) (v : Value) (b1 : Option Addr) (n1 c1 : Nat) (hv : v = sL b1 n1 c1) (a1 : Option Addr) (m cp : Nat) (w : World) (hs : 0 < s) (h : w.cell? ⟨b, off, none⟩ = some (sL a1 m cp)) :
    Calls Tryz.prog 237 #[.agg #[sL (some ⟨b, off, none⟩) s cap, v]] w fun e w' => e = .returned (nI m) ∧ Bl w w' := by
 subst hv;have a := World.block_lt_of_cell? w _ h;simp only at a
 have c : Hid _ := box_below w;go_enter Tryz.func237, Tryz.ntmps237;go_wp2;go_ret
 exact ⟨rfl, c.out _⟩
theorem setOf_any (a : Option Addr) (s cap : Nat) (v : Value) (b1 : Option Addr) (n1 c1 : Nat) (hv : v = sL b1 n1 c1) (line : Int) (w : World) (hs : s = 1 ∨ s = 2 ∨ s = 4) (h0 : 0 ≤ line) :
    Calls Tryz.prog 276 #[.agg #[sL a s cap, v], nI line] w fun e w' => e = .returned (nI (line % (s : Int))) ∧ Bl w w' := by
 subst hv;have b : Hid _ := box_below w;rcases hs with rfl | rfl | rfl
 all_goals
  go_enter Tryz.func276, Tryz.ntmps276;go_wp2;go_ret
  exact ⟨ret_int (by omega), b.out _⟩
end Go.Proofs.YtdamokokcdcedaaGreatDoor
