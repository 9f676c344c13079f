import Derived.Test.YtdamokokcdcedaaGreatDoorG00Box
import Derived.WalkMore
import Derived.ScopeJumps
import Derived.Test.YtdamokokcdcedaaGreatDoorG08
namespace Go.Proofs.YtdamokokcdcedaaGreatDoor
set_option maxHeartbeats 2000000
open Go.ChangeShapes Go.WideShapes Go.ChangeAt Go.RowKit
theorem l3Word_any (k : Int) (w : World) : Calls Tryz.prog 185 #[nI k] w fun e a => e = .returned (.bool (okW k)) ∧ a = w := by
 go_enter Tryz.func185, Tryz.ntmps185;go_wp2_with (go_at_call 126; refine (l1In_any _ _ _ _).mono ?_; rintro e a ⟨rfl, rfl⟩)
 go_ret
 exact ⟨rfl, rfl⟩
theorem specLineOk_not (a : Option Addr) (n cap : Nat) (w : World) (hn : n ≠ 2) :
    Calls Tryz.prog 131 #[sL a n cap] w fun e w' => e = .returned (.bool false) ∧ w' = w := by
 have b : ((n : Int) == 2) = false := by simp; omega
 go_enter Tryz.func131, Tryz.ntmps131;go_wp2;go_ret
 exact ⟨rfl, rfl⟩
theorem specLineOk_two (a : Option Addr) (x y : Int) (cap : Nat) (w : World) (h : Reads w a [x, y]) :
    Calls Tryz.prog 131 #[sL a 2 cap] w fun e c => e = .returned (.bool (okW x && okW y)) ∧ c = w := by
 obtain ⟨b, d, rfl, c0, c1⟩ := reads_two h;clear h;cases hx : okW x <;> cases hy : okW y
 all_goals
  go_enter Tryz.func131, Tryz.ntmps131;go_wp2_with (go_at_call 185; refine (l3Word_any _ _).mono ?_; rintro e c ⟨rfl, rfl⟩)
  go_ret
  exact ⟨rfl, rfl⟩
theorem specLineOk_any (a : Option Addr) (xs : List Int) (cap : Nat) (w : World) (h : Reads w a xs) :
    Calls Tryz.prog 131 #[sL a xs.length cap] w fun e w' => e = .returned (.bool (isL xs)) ∧ w' = w := by
 match xs with
 | [x, y] => exact specLineOk_two a x y cap w h
 | [] => exact specLineOk_not a 0 cap w (by simp)
 | [_] => exact specLineOk_not a 1 cap w (by simp)
 | _ :: _ :: _ :: r => exact specLineOk_not a (r.length + 1 + 1 + 1) cap w (by omega)
def orI (s i : Int) : Int := bits BinOp.or IntKind.i64 s (2 ^ i.toNat)
def andNotI (s i : Int) : Int := bits BinOp.andNot IntKind.i64 s (2 ^ i.toNat)
def withI (s i : Int) : Int := if setB s then (if itemB i then orI s i else s) else -1
def withoutI (s i : Int) : Int := if setB s then (if itemB i then andNotI s i else s) else -1
def powB (n : Int) : Bool := decide (n = 1 ∨ n = 2 ∨ n = 4)
theorem sizeOk_any (n : Int) (w : World) :
    Calls Tryz.prog 188 #[nI n] w fun e w' => e = .returned (.bool (powB n)) ∧ w' = w := by
 go_enter Tryz.func188, Tryz.ntmps188;go_wp2
 all_goals go_ret
 all_goals refine ⟨ret_bool ?_, rfl⟩
 all_goals first | (simp_all [powB]; done) | (rw [Bool.eq_iff_iff]; simp [powB]; omega)
theorem l2Pow_any (n : Int) (w : World) :
    Calls Tryz.prog 127 #[nI n] w fun e w' => e = .returned (.bool (powB n)) ∧ w' = w := by
 go_enter Tryz.func127, Tryz.ntmps127;go_wp2
 all_goals go_ret
 all_goals refine ⟨ret_bool ?_, rfl⟩
 all_goals first | (simp_all [powB]; done) | (rw [Bool.eq_iff_iff]; simp [powB]; omega)
def treeB (t n : Int) : Bool := decide ((n = 1 ∧ t = 0) ∨ (n = 2 ∧ 0 ≤ t ∧ t ≤ 1) ∨ (n = 4 ∧ 0 ≤ t ∧ t ≤ 7))
theorem lastTree_1 (w : World) : Calls Tryz.prog 291 #[nI 1] w fun e w' => e = .returned (nI 0) ∧ w' = w := by
 go_enter Tryz.func291, Tryz.ntmps291;go_wp2;go_ret
 exact ⟨rfl, rfl⟩
theorem lastTree_2 (w : World) : Calls Tryz.prog 291 #[nI 2] w fun e w' => e = .returned (nI 1) ∧ w' = w := by
 go_enter Tryz.func291, Tryz.ntmps291;go_wp2;go_ret
 exact ⟨rfl, rfl⟩
theorem lastTree_4 (w : World) : Calls Tryz.prog 291 #[nI 4] w fun e w' => e = .returned (nI 7) ∧ w' = w := by
 go_enter Tryz.func291, Tryz.ntmps291;go_wp2;go_ret
 exact ⟨rfl, rfl⟩
theorem implTreeOk_any (t n : Int) (w : World) :
    Calls Tryz.prog 275 #[nI t, nI n] w fun e a => e = .returned (.bool (treeB t n)) ∧ a = w := by
 cases h : powB n
 ·have H : Hid (treeB t n = false) := by
    unfold Hid;simp [powB] at h
    simp [treeB]
    omega
  go_enter Tryz.func275, Tryz.ntmps275;go_wp2_with (go_at_call 188; refine (sizeOk_any _ _).mono ?_; rintro e a ⟨rfl, rfl⟩)
  go_ret
  exact ⟨ret_bool H.out.symm, rfl⟩
 ·have b : n = 1 ∨ n = 2 ∨ n = 4 := by simpa [powB] using h
  rcases b with rfl | rfl | rfl
  ·have H : Hid (treeB t 1 = betw t 0 0) := by
     unfold Hid;rw [Bool.eq_iff_iff];simp [treeB, betw]
     omega
   go_enter Tryz.func275, Tryz.ntmps275
   go_wp2_with (first
    | (go_at_call 188; refine (sizeOk_any _ _).mono ?_; rintro e a ⟨rfl, rfl⟩)
    | (go_at_call 291; refine (lastTree_1 _).mono ?_; rintro e a ⟨rfl, rfl⟩)
    | (go_at_call 156; refine (between_any _ _ _ _).mono ?_; rintro e a ⟨rfl, rfl⟩))
   go_ret
   exact ⟨ret_bool H.out.symm, rfl⟩
  ·have H : Hid (treeB t 2 = betw t 0 1) := by
     unfold Hid;rw [Bool.eq_iff_iff];simp [treeB, betw]
   go_enter Tryz.func275, Tryz.ntmps275
   go_wp2_with (first
    | (go_at_call 188; refine (sizeOk_any _ _).mono ?_; rintro e a ⟨rfl, rfl⟩)
    | (go_at_call 291; refine (lastTree_2 _).mono ?_; rintro e a ⟨rfl, rfl⟩)
    | (go_at_call 156; refine (between_any _ _ _ _).mono ?_; rintro e a ⟨rfl, rfl⟩))
   go_ret
   exact ⟨ret_bool H.out.symm, rfl⟩
  ·have H : Hid (treeB t 4 = betw t 0 7) := by
     unfold Hid;rw [Bool.eq_iff_iff];simp [treeB, betw]
   go_enter Tryz.func275, Tryz.ntmps275
   go_wp2_with (first
    | (go_at_call 188; refine (sizeOk_any _ _).mono ?_; rintro e a ⟨rfl, rfl⟩)
    | (go_at_call 291; refine (lastTree_4 _).mono ?_; rintro e a ⟨rfl, rfl⟩)
    | (go_at_call 156; refine (between_any _ _ _ _).mono ?_; rintro e a ⟨rfl, rfl⟩))
   go_ret
   exact ⟨ret_bool H.out.symm, rfl⟩
theorem specTreeOk_any (t n : Int) (w : World) :
    Calls Tryz.prog 186 #[nI t, nI n] w fun e a => e = .returned (.bool (treeB t n)) ∧ a = w := by
 by_cases d : n = 1
 ·subst d;have H : Hid (treeB t 1 = (t == 0)) := by
   unfold Hid;rw [Bool.eq_iff_iff];simp [treeB]
  go_enter Tryz.func186, Tryz.ntmps186;go_wp2_with fail
  go_ret
  exact ⟨ret_bool H.out.symm, rfl⟩
 by_cases c : n = 2
 ·subst c;have H : Hid (treeB t 2 = betw t 0 1) := by
   unfold Hid;rw [Bool.eq_iff_iff];simp [treeB, betw]
  go_enter Tryz.func186, Tryz.ntmps186;go_wp2_with (go_at_call 126; refine (l1In_any _ _ _ _).mono ?_; rintro e a ⟨rfl, rfl⟩)
  go_ret
  exact ⟨ret_bool H.out.symm, rfl⟩
 by_cases b : n = 4
 ·subst b;have H : Hid (treeB t 4 = betw t 0 7) := by
   unfold Hid;rw [Bool.eq_iff_iff];simp [treeB, betw]
  go_enter Tryz.func186, Tryz.ntmps186;go_wp2_with (go_at_call 126; refine (l1In_any _ _ _ _).mono ?_; rintro e a ⟨rfl, rfl⟩)
  go_ret
  exact ⟨ret_bool H.out.symm, rfl⟩
 have H : Hid (treeB t n = false) := by
  unfold Hid;simp [treeB]
  omega
 go_enter Tryz.func186, Tryz.ntmps186;go_wp2_with fail
 go_ret
 exact ⟨ret_bool H.out.symm, rfl⟩
end Go.Proofs.YtdamokokcdcedaaGreatDoor
namespace Go
end Go
namespace Go.Proofs.YtdamokokcdcedaaGreatDoor
open Go.ChangeShapes Go.WideShapes Go.ChangeAt Go.RowKit
theorem tree_pow {t n : Int} (h : treeB t n = true) : n = 1 ∨ n = 2 ∨ n = 4 := by
 simp [treeB] at h
 omega
def goI (t n : Int) : Int := if n = 1 then 0 else if n = 2 then t else 2 * (t % 2) + t / 2 ^ (1 + t % 2).toNat % 2
def viI (t n : Int) : Int := if treeB t n then goI t n else -1
open Go.ChangeShapes Go.WideShapes Go.ChangeAt Go.RowKit Go.Shelf
set_option linter.unusedVariables false
theorem lineNumberOk_any (k : Int) (w : World) : Calls Tryz.prog 245 #[nI k] w fun e a => e = .returned (.bool (betw k 0 15)) ∧ a = w := by
 go_enter Tryz.func245, Tryz.ntmps245;go_wp2_with (go_at_call 156; refine (between_any _ _ _ _).mono ?_; rintro e a ⟨rfl, rfl⟩)
 go_ret
 exact ⟨rfl, rfl⟩
def clrB (l s : Int) (n : Nat) : Bool := decide (l = -1 ∧ s = 0 ∧ n = 0)
theorem clr_eq (u : WayD) : clrB u.1 u.2.1 u.2.2.length = clearB u := by
 simp [clrB, clearB]
theorem implEmpty_any (l s : Int) (a : Option Addr) (n cap : Nat) (w : World) (hn : n ≤ maxLen) :
    Calls Tryz.prog 94 #[.agg #[nI l, nI s, sL a n cap]] w fun e w' => e = .returned (.bool (clrB l s n)) ∧ Bl w w' := by
 have i : n ≤ 9223372036854775807 := hn;clear hn;by_cases b : l = -1
 ·by_cases c : s = 0
  ·by_cases d : n = 0
   ·have H : Hid (clrB l s n = true) := by simp [Hid, clrB, b, c, d]
    subst b c d;go_enter Tryz.func94, Tryz.ntmps94;go_wp2;go_ret
    exact ⟨ret_bool H.out.symm, box_below w _⟩
   ·have H : Hid (clrB l s n = false) := by simp [Hid, clrB, d]
    have f : ((n : Int) == 0) = false := by simp; omega
    subst b c;go_enter Tryz.func94, Tryz.ntmps94;go_wp2;go_ret
    exact ⟨ret_bool H.out.symm, box_below w _⟩
  ·have H : Hid (clrB l s n = false) := by simp [Hid, clrB, c]
   have g : (s == 0) = false := by simpa using c
   subst b;go_enter Tryz.func94, Tryz.ntmps94;go_wp2;go_ret
   exact ⟨ret_bool H.out.symm, box_below w _⟩
 ·have H : Hid (clrB l s n = false) := by simp [Hid, clrB, b]
  have j : (l == -1) = false := by simpa using b
  go_enter Tryz.func94, Tryz.ntmps94;go_wp2;go_ret
  exact ⟨ret_bool H.out.symm, box_below w _⟩
theorem l6Clear_any (l s : Int) (a : Option Addr) (n cap : Nat) (w : World) (hn : n ≤ maxLen) :
    Calls Tryz.prog 58 #[.agg #[nI l, nI s, sL a n cap]] w fun e w' => e = .returned (.bool (clrB l s n)) ∧ Bl w w' := by
 have i : n ≤ 9223372036854775807 := hn;clear hn;by_cases b : l = -1
 ·by_cases c : s = 0
  ·by_cases d : n = 0
   ·have H : Hid (clrB l s n = true) := by simp [Hid, clrB, b, c, d]
    subst b c d;go_enter Tryz.func58, Tryz.ntmps58;go_wp2;go_ret
    exact ⟨ret_bool H.out.symm, box_below w _⟩
   ·have H : Hid (clrB l s n = false) := by simp [Hid, clrB, d]
    have f : ((n : Int) == 0) = false := by simp; omega
    subst b c;go_enter Tryz.func58, Tryz.ntmps58;go_wp2;go_ret
    exact ⟨ret_bool H.out.symm, box_below w _⟩
  ·have H : Hid (clrB l s n = false) := by simp [Hid, clrB, c]
   have g : (s == 0) = false := by simpa using c
   subst b;go_enter Tryz.func58, Tryz.ntmps58;go_wp2;go_ret
   exact ⟨ret_bool H.out.symm, box_below w _⟩
 ·have H : Hid (clrB l s n = false) := by simp [Hid, clrB, b]
  have j : (l == -1) = false := by simpa using b
  go_enter Tryz.func58, Tryz.ntmps58;go_wp2;go_ret
  exact ⟨ret_bool H.out.symm, box_below w _⟩
theorem full_eq (ln : List Int → Bool) (u : WayD) : fullB ln u = (betw u.1 0 15 && (betw u.2.1 1 3 && ln u.2.2)) := by
 simp [fullB, betw, Bool.decide_and]
theorem implFull_any (l s : Int) (d : List Int) (a : Option Addr) (cap : Nat) (w : World) (h : SlRd intR w a d) :
    Calls Tryz.prog 261 #[.agg #[nI l, nI s, sL a d.length cap]] w fun e b => e = .returned (.bool (fullB isL (l, s, d))) ∧ Bl w b := by
 rw [full_eq];have c : Hid _ := box_below w;have g : Hid (∀ o, Reads (w.alloc o) a d) := fun o => reads_of (slrd_next h (box_below w o));clear h;cases h1 : betw l 0 15
 ·go_enter Tryz.func261, Tryz.ntmps261;go_wp2_with (go_at_call 245; refine (lineNumberOk_any _ _).mono ?_; rintro e b ⟨rfl, rfl⟩)
  go_ret
  exact ⟨rfl, c.out _⟩
 ·cases h2 : betw s 1 3
  ·go_enter Tryz.func261, Tryz.ntmps261
   go_wp2_with (first
    | (go_at_call 245; refine (lineNumberOk_any _ _).mono ?_; rintro e b ⟨rfl, rfl⟩)
    | (go_at_call 156; refine (between_any _ _ _ _).mono ?_; rintro e b ⟨rfl, rfl⟩))
   go_ret
   exact ⟨rfl, c.out _⟩
  ·go_enter Tryz.func261, Tryz.ntmps261
   go_wp2_with (first
    | (go_at_call 245; refine (lineNumberOk_any _ _).mono ?_; rintro e b ⟨rfl, rfl⟩)
    | (go_at_call 156; refine (between_any _ _ _ _).mono ?_; rintro e b ⟨rfl, rfl⟩)
    | (go_at_call 91; refine (implLineOk_any _ d _ _ (g.out _)).mono ?_; rintro e b ⟨rfl, f⟩))
   go_ret
   exact ⟨rfl, below_step (c.out _) f⟩
theorem l6Full_any (l s : Int) (d : List Int) (a : Option Addr) (cap : Nat) (w : World) (h : SlRd intR w a d) :
    Calls Tryz.prog 135 #[.agg #[nI l, nI s, sL a d.length cap]] w fun e b => e = .returned (.bool (fullB isL (l, s, d))) ∧ Bl w b := by
 rw [full_eq];have c : Hid _ := box_below w;have f : Hid (∀ o, Reads (w.alloc o) a d) := fun o => reads_of (slrd_next h (box_below w o));clear h;cases h1 : betw l 0 15
 ·go_enter Tryz.func135, Tryz.ntmps135;go_wp2_with (go_at_call 126; refine (l1In_any _ _ _ _).mono ?_; rintro e b ⟨rfl, rfl⟩)
  go_ret
  exact ⟨rfl, c.out _⟩
 ·cases h2 : betw s 1 3
  ·go_enter Tryz.func135, Tryz.ntmps135;go_wp2_with (go_at_call 126; refine (l1In_any _ _ _ _).mono ?_; rintro e b ⟨rfl, rfl⟩)
   go_ret
   exact ⟨rfl, c.out _⟩
  ·go_enter Tryz.func135, Tryz.ntmps135
   go_wp2_with (first
    | (go_at_call 126; refine (l1In_any _ _ _ _).mono ?_; rintro e b ⟨rfl, rfl⟩)
    | (go_at_call 131; refine (specLineOk_any _ d _ _ (f.out _)).mono ?_; rintro e b ⟨rfl, rfl⟩))
   go_ret
   exact ⟨rfl, c.out _⟩
theorem ways_any (b off s cap : Nat) (v : Value) (b1 : Option Addr) (n1 c1 : Nat) (hv : v = sL b1 n1 c1) (a1 : Option Addr) (m cp : Nat) (w : World) (hs : 0 < s) (h : w.cell? ⟨b, off, none⟩ = some (sL a1 m cp)) :
    Calls Tryz.prog 237 #[.agg #[sL (some ⟨b, off, none⟩) s cap, v]] w fun e w' => e = .returned (nI m) ∧ Bl w w' := by
 subst hv;have a := World.block_lt_of_cell? w _ h;simp only at a
 have c : Hid _ := box_below w;go_enter Tryz.func237, Tryz.ntmps237;go_wp2;go_ret
 exact ⟨rfl, c.out _⟩
theorem setOf_any (a : Option Addr) (s cap : Nat) (v : Value) (b1 : Option Addr) (n1 c1 : Nat) (hv : v = sL b1 n1 c1) (line : Int) (w : World) (hs : s = 1 ∨ s = 2 ∨ s = 4) (h0 : 0 ≤ line) :
    Calls Tryz.prog 276 #[.agg #[sL a s cap, v], nI line] w fun e w' => e = .returned (nI (line % (s : Int))) ∧ Bl w w' := by
 subst hv;have b : Hid _ := box_below w;rcases hs with rfl | rfl | rfl
 all_goals
  go_enter Tryz.func276, Tryz.ntmps276;go_wp2;go_ret
  exact ⟨ret_int (by omega), b.out _⟩
def waysN (c : CacheD) : Nat := (c.1.getD 0 []).length
def RowFit (c : CacheD) (i : Nat) : Prop := ∀ row t, c.1[i]? = some row → c.2[i]? = some t → row.length = waysN c ∧ treeB t (waysN c) = true
def Shape (c : CacheD) : Prop := powB c.1.length = true ∧ c.2.length = c.1.length ∧ ∀ i, i < c.1.length → RowFit c i
open Classical in
noncomputable def shapeB (c : CacheD) : Bool := decide (Shape c)
theorem shape_yes {c : CacheD} (h : Shape c) : shapeB c = true := by simp [shapeB, h]
theorem shape_no {c : CacheD} (h : ¬ Shape c) : shapeB c = false := by simp [shapeB, h]
theorem cells_two {w : World} {g : Nat} {x y : Value} {t : TypeId} (h : w.heap[g]? = some (.cells #[x, y] t (0, 0))) :
    w.cell? ⟨g, 0, none⟩ = some x ∧ w.cell? ⟨g, 1, none⟩ = some y := cell_two h
theorem cells_three {w : World} {g : Nat} {x y z : Value} {t : TypeId} (h : w.heap[g]? = some (.cells #[x, y, z] t (0, 0))) :
    w.cell? ⟨g, 0, none⟩ = some x ∧ w.cell? ⟨g, 1, none⟩ = some y ∧ w.cell? ⟨g, 2, none⟩ = some z :=
 ⟨by rw [cell_of_row w g 0 _ t (0, 0) h]; rfl, by rw [cell_of_row w g 1 _ t (0, 0) h]; rfl, by rw [cell_of_row w g 2 _ t (0, 0) h]; rfl⟩
theorem set_at {w : World} {a : Option Addr} {xs : List (List WayD)} {j : Nat} {row : List WayD} (h : SlRd waysR w a xs) (hx : xs[j]? = some row) :
    ∃ b d i g, a = some ⟨b, d, none⟩ ∧ w.cell? ⟨b, d + j, none⟩ = some (sL i row.length g) ∧ row.length ≤ g ∧ g ≤ maxLen ∧ SlRd wayR w i row := by
 obtain ⟨b, d, c, rfl, ⟨i, g, rfl, n, m, l⟩, f⟩ := slrd_at h hx;have k := f 0 _ rfl;rw [show j * waysR.size + 0 = j from Nat.mul_one j] at k;exact ⟨b, d, i, g, rfl, k, n, m, l⟩
theorem int_at {w : World} {a : Option Addr} {xs : List Int} {j : Nat} {x : Int} (h : SlRd intR w a xs) (hx : xs[j]? = some x) :
    ∃ b d, a = some ⟨b, d, none⟩ ∧ w.cell? ⟨b, d + j, none⟩ = some (nI x) := by
 obtain ⟨b, d, c, rfl, ⟨rfl, _⟩, f⟩ := slrd_at h hx;have g := f 0 _ rfl;rw [show j * intR.size + 0 = j from Nat.mul_one j] at g;exact ⟨b, d, rfl, g⟩
theorem shapeOk_any (a b : Option Addr) (c : CacheD) (cap cp : Nat) (w : World) (h1 : SlRd waysR w a c.1) (h2 : SlRd intR w b c.2) (m1 : c.1.length ≤ maxLen) (m2 : c.2.length ≤ maxLen) (m3 : ∀ f ∈ c.1, f.length ≤ maxLen) :
    Calls Tryz.prog 256 #[.agg #[sL a c.1.length cap, sL b c.2.length cp]] w fun e l => e = .returned (.bool (shapeB c)) ∧ Bl w l := by
 have RA : c.1.length ≤ 9223372036854775807 := m1;have cB : c.2.length ≤ 9223372036854775807 := m2;have HB : Hid _ := box_below w;cases N : powB c.1.length
 ·have H : Hid (shapeB c = false) := shape_no fun h => by rw [h.1] at N; cases N
  clear h1 h2 m1 m2 m3;go_enter Tryz.func256, Tryz.ntmps256;go_wp2_with (go_at_call 188; refine (sizeOk_any _ _).mono ?_; rintro e l ⟨rfl, rfl⟩; rw [N])
  go_ret
  exact ⟨ret_bool H.out.symm, HB.out _⟩
 by_cases hl : c.2.length = c.1.length
 ·rw [hl];have HP : Hid (powB c.1.length = true) := N;have HM : Hid (∀ f ∈ c.1, f.length ≤ maxLen) := m3;have r : 0 < c.1.length := by simp [powB] at N; omega
  have J : c.1[0]? = some (c.1.getD 0 []) := by rw [List.getD_eq_getElem?_getD, List.getElem?_eq_getElem r]; rfl
  have M : (c.1.getD 0 []).length ≤ maxLen := m3 _ (List.mem_of_getElem? J);obtain ⟨o, p, T, U, rfl, D, -, -, -⟩ := set_at h1 J;have H1 : Hid _ := h1;have H2 : Hid _ := h2;have G : Hid (c.2.length = c.1.length) := hl;have R : Hid ((c.1.getD 0 []).length = waysN c) := rfl;have G0 : Hid (w.cell? ⟨o, p + 0, none⟩ = some (sL T (c.1.getD 0 []).length U)) := D;clear h1 h2 m1 m2 m3 J hl D;generalize (c.1.getD 0 []).length = m at M R G0;go_enter Tryz.func256, Tryz.ntmps256;go_wp2_with (go_at_call 188; refine (sizeOk_any _ _).mono ?_; rintro e l ⟨rfl, rfl⟩; rw [N])
  generalize O : w.alloc _ = W0;have X0 := boxH O;have B0 := boxB O;clear O;go_loopw [22] (fun i wr => ∃ k : Nat, k ≤ c.1.length ∧ i = nI k ∧ (∀ j, j < k → RowFit c j) ∧ Bl w wr ∧ wr.heap[w.heap.size]? = some (.cells #[sL (some ⟨o, p, none⟩) c.1.length cap, sL b c.1.length cp] 95 (0, 0))) (fun i _ => c.1.length - (intOf i).toNat)
  case atStart => exact ⟨0, Nat.zero_le _, rfl, fun j hj => by omega, B0, X0⟩
  case round =>
   clear B0 X0;obtain ⟨k, hk, rfl, F, E, X⟩ := hrel;by_cases Y : k < c.1.length
   ·have CA : (k : Int) < (c.1.length : Int) := by omega
    obtain ⟨f, g⟩ : ∃ f, c.1[k]? = some f := ⟨_, List.getElem?_eq_getElem Y⟩;obtain ⟨t, ht⟩ : ∃ t, c.2[k]? = some t := ⟨_, List.getElem?_eq_getElem (by have := G.out; omega)⟩;obtain ⟨_, _, ak, ck, e1, S, -, -, -⟩ := set_at H1.out g;cases e1;obtain ⟨z, B, rfl, L⟩ := int_at H2.out ht;have bA : f.length ≤ maxLen := HM.out _ (List.mem_of_getElem? g);have l1 := cell_lt S;have l2 := cell_lt L;have KW : Hid (∀ l, Bl w l → l.cell? ⟨o, p, none⟩ = some (sL T m U) ∧ l.cell? ⟨o, p + k, none⟩ = some (sL ak f.length ck) ∧ l.cell? ⟨z, B + k, none⟩ = some (nI t)) :=
     fun l hb => ⟨cell_keep hb G0.out l1, cell_keep hb S l1, cell_keep hb L l2⟩
    have HR : Hid (∀ r' t', c.1[k]? = some r' → c.2[k]? = some t' → r' = f ∧ t' = t) := fun r' t' h h' => by rw [g] at h; rw [ht] at h'; cases h; cases h'; exact ⟨rfl, rfl⟩
    have HF : Hid (¬ RowFit c k → shapeB c = false) := fun h => shape_no fun s => h (s.2.2 k Y);have HN : Hid (RowFit c k → f.length = m ∧ treeB t m = true) := fun h => by have := h f t g ht; rwa [← R.out] at this
    have HY : Hid (f.length = m → treeB t m = true → RowFit c k) := fun e1 e2 r' t' h h' => by obtain ⟨rfl, rfl⟩ := HR.out r' t' h h'; rw [← R.out]; exact ⟨e1, e2⟩
    have EA : f.length ≤ 9223372036854775807 := bA;have dB : m ≤ 9223372036854775807 := M;clear S L g ht bA M G0;have n0 : ∀ n : Cls (fun wx => Bl w wx ∧ wx.heap[w.heap.size]? = some (.cells #[sL (some ⟨o, p, none⟩) c.1.length cap, sL (some ⟨z, B, none⟩) c.1.length cp] 95 (0, 0))), n.w.cell? ⟨w.heap.size, 0, none⟩ = some (sL (some ⟨o, p, none⟩) c.1.length cap) := fun n => (cells_two n.h.2).1;have n1 : ∀ n : Cls (fun wx => Bl w wx ∧ wx.heap[w.heap.size]? = some (.cells #[sL (some ⟨o, p, none⟩) c.1.length cap, sL (some ⟨z, B, none⟩) c.1.length cp] 95 (0, 0))), n.w.cell? ⟨w.heap.size, 1, none⟩ = some (sL (some ⟨z, B, none⟩) c.1.length cp) := fun n => (cells_two n.h.2).2;have D : ∀ n : Cls (fun wx => Bl w wx ∧ wx.heap[w.heap.size]? = some (.cells #[sL (some ⟨o, p, none⟩) c.1.length cap, sL (some ⟨z, B, none⟩) c.1.length cp] 95 (0, 0))), n.w.cell? ⟨o, p, none⟩ = some (sL T m U) := fun n => (KW.out _ n.h.1).1;have L : ∀ n : Cls (fun wx => Bl w wx ∧ wx.heap[w.heap.size]? = some (.cells #[sL (some ⟨o, p, none⟩) c.1.length cap, sL (some ⟨z, B, none⟩) c.1.length cp] 95 (0, 0))), n.w.cell? ⟨z, B + k, none⟩ = some (nI t) := fun n => (KW.out _ n.h.1).2.2;obtain ⟨-, S, -⟩ := KW.out _ E;by_cases hm : f.length = m
    ·have eB : ((f.length : Int) == (m : Int)) = true := by simp [hm]
     cases C : treeB t m
     ·have q : Hid (∀ w, Calls Tryz.prog 275 #[nI t, nI m] w fun e l => e = .returned (.bool false) ∧ l = w) := fun w => by have := implTreeOk_any t m w; rwa [C] at this
      go_wp2_with fail
      refine region_class (fun wx => Bl w wx ∧ wx.heap[w.heap.size]? = some (.cells #[sL (some ⟨o, p, none⟩) c.1.length cap, sL (some ⟨z, B, none⟩) c.1.length cp] 95 (0, 0))) (by kernel_rfl) (by kernel_rfl) ⟨E.drew, X⟩ ?_;intro v;repeat (quiet_step (first | (go_at_call 237; exact calls_class (ways_any o p c.1.length cap _ _ _ _ rfl T m U _ r (D _)) (fun l hc bb => ⟨below_step hc.1 bb, row_keep bb hc.2⟩)) | (go_at_call 275; exact calls_class_same (q.out _))))
      refine wpQuiet_nil ?_;rintro wx ⟨y, I⟩;clear n0 n1 D L S E X v;go_wp2;go_ret
      exact ⟨ret_bool (HF.out fun h => by have := (HN.out h).2; rw [C] at this; cases this).symm, y⟩
     ·have q : Hid (∀ w, Calls Tryz.prog 275 #[nI t, nI m] w fun e l => e = .returned (.bool true) ∧ l = w) := fun w => by have := implTreeOk_any t m w; rwa [C] at this
      go_wp2_with fail
      refine region_class (fun wx => Bl w wx ∧ wx.heap[w.heap.size]? = some (.cells #[sL (some ⟨o, p, none⟩) c.1.length cap, sL (some ⟨z, B, none⟩) c.1.length cp] 95 (0, 0))) (by kernel_rfl) (by kernel_rfl) ⟨E.drew, X⟩ ?_;intro v;repeat (quiet_step (first | (go_at_call 237; exact calls_class (ways_any o p c.1.length cap _ _ _ _ rfl T m U _ r (D _)) (fun l hc bb => ⟨below_step hc.1 bb, row_keep bb hc.2⟩)) | (go_at_call 275; exact calls_class_same (q.out _))))
      refine wpQuiet_nil ?_;rintro wx ⟨y, I⟩;clear n0 n1 D L S E X v;go_wp2;go_roundw
      case rel =>
       refine ⟨k + 1, by omega, by go_num, fun j hj => ?_, y, I⟩;by_cases he : j < k
       ·exact F j he
       ·have : j = k := by omega
        subst this;exact HY.out hm C
      case measure => simp [intOf]; omega
    ·have pA : ((f.length : Int) != (m : Int)) = true := by simp; omega
     go_wp2_with fail
     refine region_class (fun wx => Bl w wx ∧ wx.heap[w.heap.size]? = some (.cells #[sL (some ⟨o, p, none⟩) c.1.length cap, sL (some ⟨z, B, none⟩) c.1.length cp] 95 (0, 0))) (by kernel_rfl) (by kernel_rfl) ⟨E.drew, X⟩ ?_;intro v;iterate 5 (quiet_step ((go_at_call 237; exact calls_class (ways_any o p c.1.length cap _ _ _ _ rfl T m U _ r (D _)) (fun l hc bb => ⟨below_step hc.1 bb, row_keep bb hc.2⟩))))
     clear pA;refine wpQuiet_step (fun K hK => ?_);go_simp
     refine hid_act K _ ?_;intro A hA;refine hK A ?_;clear hK K;have eA : A.tmps[32]? = some (.bool true) := by rw [hA]; rfl
     refine wpQuiet_skip (b := false) (d := 32) eA rfl rfl rfl (by decide) ?_;intro A0 e0 gA;clear eA;refine wpQuiet_skip (b := false) (d := 32) gA rfl rfl rfl (by decide) ?_;intro A1 e1 dA;clear gA;refine wpQuiet_skip (b := false) (d := 32) dA rfl rfl rfl (by decide) ?_;intro A2 e2 iA;clear dA;refine wpQuiet_skip (b := false) (d := 32) iA rfl rfl rfl (by decide) ?_;intro A3 e3 kA;clear iA;refine wpQuiet_skip (b := false) (d := 32) kA rfl rfl rfl (by decide) ?_;intro A4 e4 fA;clear kA;refine wpQuiet_skip (b := false) (d := 32) fA rfl rfl rfl (by decide) ?_;intro A5 e5 aA;clear fA;refine wpQuiet_skip (b := false) (d := 32) aA rfl rfl rfl (by decide) ?_;intro A6 e6 V;clear aA;refine wpQuiet_skip (b := false) (d := 32) V rfl rfl rfl (by decide) ?_;intro A7 e7 jA;clear V;refine wpQuiet_skip (b := false) (d := 32) jA rfl rfl rfl (by decide) ?_;intro A8 e8 TA;clear jA;subst e8 e7 e6 e5 e4 e3 e2 e1 e0;subst hA;refine wpQuiet_step (fun K hK => ?_);go_simp
     refine hK _ ?_;clear hK K;refine wpQuiet_nil ?_;rintro wx ⟨y, I⟩;clear n0 n1 D L S E X v;go_wp2;go_ret
     exact ⟨ret_bool (HF.out fun h => hm (HN.out h).1).symm, y⟩
   ·have Z : k = c.1.length := by omega
    have H : Hid (shapeB c = true) := shape_yes ⟨HP.out, G.out, by rw [← Z]; exact F⟩;subst Z;go_wp2;go_ret
    exact ⟨ret_bool H.out.symm, E⟩
 ·have H : Hid (shapeB c = false) := shape_no fun h => hl h.2.1;have MA : ((c.2.length : Int) == (c.1.length : Int)) = false := by simp; omega
  clear h1 h2 m1 m2 m3;go_enter Tryz.func256, Tryz.ntmps256;go_wp2_with (go_at_call 188; refine (sizeOk_any _ _).mono ?_; rintro e l ⟨rfl, rfl⟩; rw [N])
  go_ret
  exact ⟨ret_bool H.out.symm, HB.out _⟩
end Go.Proofs.YtdamokokcdcedaaGreatDoor
