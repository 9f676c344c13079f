import Derived.Test.YthnfkacboijneaaGreatDoorP04Mems
import Derived.Test.YthnfkacboijneaaGreatDoorP10Ops
import Derived.WalkMore
import Derived.ScopeJumps
import Derived.Test.YthnfkacboijneaaGreatDoorP19Iters
import Derived.Test.YthnfkacboijneaaGreatDoorP09OpL
import Derived.Deep.DeepCutAuto
import Derived.BigRegion
namespace Go.Proofs.YthnfkacboijneaaGreatDoor
set_option maxHeartbeats 400000
open Go.ChangeShapes Go.WideShapes Go.ChangeAt Go.RowKit
def orI (s i : Int) : Int := bits BinOp.or IntKind.i64 s (2 ^ i.toNat)
def andNotI (s i : Int) : Int := bits BinOp.andNot IntKind.i64 s (2 ^ i.toNat)
def withI (s i : Int) : Int := if setB s then (if itemB i then orI s i else s) else -1
def withoutI (s i : Int) : Int := if setB s then (if itemB i then andNotI s i else s) else -1
def treeB (t n : Int) : Bool := decide ((n = 1 ∧ t = 0) ∨ (n = 2 ∧ 0 ≤ t ∧ t ≤ 1) ∨ (n = 4 ∧ 0 ≤ t ∧ t ≤ 7))
theorem specTreeOk_any (t n : Int) (w : World) :
    Calls Tryz.prog 153 #[.int .i64 t, .int .i64 n] w fun e w' => e = .returned (.bool (treeB t n)) ∧ w' = w := by
 by_cases h1 : n = 1
 ·subst h1
  have H : Hid (treeB t 1 = (t == 0)) := by
   unfold Hid
   rw [Bool.eq_iff_iff]
   simp [treeB]
  go_enter Tryz.func153, Tryz.ntmps153
  go_wp2_with fail
  go_ret
  exact ⟨ret_bool H.out.symm, rfl⟩
 by_cases h2 : n = 2
 ·subst h2
  have H : Hid (treeB t 2 = betw t 0 1) := by
   unfold Hid
   rw [Bool.eq_iff_iff]
   simp [treeB, betw]
  go_enter Tryz.func153, Tryz.ntmps153
  go_wp2_with (go_at_call 84; refine (l1In_any _ _ _ _).mono ?_; rintro e w' ⟨rfl, rfl⟩)
  go_ret
  exact ⟨ret_bool H.out.symm, rfl⟩
 by_cases h4 : n = 4
 ·subst h4
  have H : Hid (treeB t 4 = betw t 0 7) := by
   unfold Hid
   rw [Bool.eq_iff_iff]
   simp [treeB, betw]
  go_enter Tryz.func153, Tryz.ntmps153
  go_wp2_with (go_at_call 84; refine (l1In_any _ _ _ _).mono ?_; rintro e w' ⟨rfl, rfl⟩)
  go_ret
  exact ⟨ret_bool H.out.symm, rfl⟩
 have H : Hid (treeB t n = false) := by
  unfold Hid
  simp [treeB]
  omega
 go_enter Tryz.func153, Tryz.ntmps153
 go_wp2_with fail
 go_ret
 exact ⟨ret_bool H.out.symm, rfl⟩
end Go.Proofs.YthnfkacboijneaaGreatDoor
namespace Go
end Go
namespace Go.Proofs.YthnfkacboijneaaGreatDoor
open Go.ChangeShapes Go.WideShapes Go.ChangeAt Go.RowKit
theorem tree_pow {t n : Int} (h : treeB t n = true) : n = 1 ∨ n = 2 ∨ n = 4 := by
 simp [treeB] at h
 omega
def goI (t n : Int) : Int := if n = 1 then 0 else if n = 2 then t else 2 * (t % 2) + t / 2 ^ (1 + t % 2).toNat % 2
def viI (t n : Int) : Int := if treeB t n then goI t n else -1
open Go.ChangeShapes Go.WideShapes Go.ChangeAt Go.RowKit Go.Shelf
set_option linter.unusedVariables false
theorem lineNumberOk_any (k : Int) (w : World) : Calls Tryz.prog 233 #[.int .i64 k] w fun e w' => e = .returned (.bool (betw k 0 15)) ∧ w' = w := by
 go_enter Tryz.func233, Tryz.ntmps233
 go_wp2_with (go_at_call 157; refine (between_any _ _ _ _).mono ?_; rintro e w' ⟨rfl, rfl⟩)
 go_ret
 exact ⟨rfl, rfl⟩
def clrB (l s : Int) (n : Nat) : Bool := decide (l = -1 ∧ s = 0 ∧ n = 0)
theorem clr_eq (u : WayD) : clrB u.1 u.2.1 u.2.2.length = clearB u := by
 simp [clrB, clearB]
theorem l6Clear_any (l s : Int) (a : Option Addr) (n cap : Nat) (w : World) (hn : n ≤ maxLen) :
    Calls Tryz.prog 93 #[.agg #[.int .i64 l, .int .i64 s, .slice a n cap]] w fun e w' => e = .returned (.bool (clrB l s n)) ∧ Below w.heap.size w w' := by
 have hn' : n ≤ 9223372036854775807 := hn
 clear hn
 by_cases h1 : l = -1
 ·by_cases h2 : s = 0
  ·by_cases h3 : n = 0
   ·have H : Hid (clrB l s n = true) := by simp [Hid, clrB, h1, h2, h3]
    subst h1 h2 h3
    go_enter Tryz.func93, Tryz.ntmps93
    go_wp2
    go_ret
    exact ⟨ret_bool H.out.symm, box_below w _⟩
   ·have H : Hid (clrB l s n = false) := by simp [Hid, clrB, h3]
    have h3' : ((n : Int) == 0) = false := by simp; omega
    subst h1 h2
    go_enter Tryz.func93, Tryz.ntmps93
    go_wp2
    go_ret
    exact ⟨ret_bool H.out.symm, box_below w _⟩
  ·have H : Hid (clrB l s n = false) := by simp [Hid, clrB, h2]
   have h2' : (s == 0) = false := by simpa using h2
   subst h1
   go_enter Tryz.func93, Tryz.ntmps93
   go_wp2
   go_ret
   exact ⟨ret_bool H.out.symm, box_below w _⟩
 ·have H : Hid (clrB l s n = false) := by simp [Hid, clrB, h1]
  have h1' : (l == -1) = false := by simpa using h1
  go_enter Tryz.func93, Tryz.ntmps93
  go_wp2
  go_ret
  exact ⟨ret_bool H.out.symm, box_below w _⟩
theorem full_eq (ln : List Int → Bool) (u : WayD) : fullB ln u = (betw u.1 0 15 && (betw u.2.1 1 3 && ln u.2.2)) := by
 simp [fullB, betw, Bool.decide_and]
theorem l6Full_any (l s : Int) (d : List Int) (a : Option Addr) (cap : Nat) (w : World) (h : SlRd intR w a d) :
    Calls Tryz.prog 94 #[.agg #[.int .i64 l, .int .i64 s, .slice a d.length cap]] w fun e w' => e = .returned (.bool (fullB isL (l, s, d))) ∧ Below w.heap.size w w' := by
 rw [full_eq]
 have HB : Hid _ := box_below w
 have hr : Hid (∀ o, Reads (w.alloc o) a d) := fun o => reads_of (slrd_next h (box_below w o))
 clear h
 cases h1 : betw l 0 15
 ·go_enter Tryz.func94, Tryz.ntmps94
  go_wp2_with (go_at_call 84; refine (l1In_any _ _ _ _).mono ?_; rintro e w' ⟨rfl, rfl⟩)
  go_ret
  exact ⟨rfl, HB.out _⟩
 ·cases h2 : betw s 1 3
  ·go_enter Tryz.func94, Tryz.ntmps94
   go_wp2_with (go_at_call 84; refine (l1In_any _ _ _ _).mono ?_; rintro e w' ⟨rfl, rfl⟩)
   go_ret
   exact ⟨rfl, HB.out _⟩
  ·go_enter Tryz.func94, Tryz.ntmps94
   go_wp2_with (first
    | (go_at_call 84; refine (l1In_any _ _ _ _).mono ?_; rintro e w' ⟨rfl, rfl⟩)
    | (go_at_call 89; refine (specLineOk_any _ d _ _ (hr.out _)).mono ?_; rintro e w' ⟨rfl, rfl⟩))
   go_ret
   exact ⟨rfl, HB.out _⟩
theorem setOf_any (a : Option Addr) (s cap : Nat) (v : Value) (b1 : Option Addr) (n1 c1 : Nat) (hv : v = .slice b1 n1 c1) (line : Int) (w : World) (hs : s = 1 ∨ s = 2 ∨ s = 4) (h0 : 0 ≤ line) :
    Calls Tryz.prog 282 #[.agg #[.slice a s cap, v], .int .i64 line] w fun e w' => e = .returned (.int .i64 (line % (s : Int))) ∧ Below w.heap.size w w' := by
 subst hv
 have HB : Hid _ := box_below w
 rcases hs with rfl | rfl | rfl
 all_goals
  go_enter Tryz.func282, Tryz.ntmps282
  go_wp2
  go_ret
  exact ⟨ret_int (by omega), HB.out _⟩
def waysN (c : CacheD) : Nat := (c.1.getD 0 []).length
def RowFit (c : CacheD) (i : Nat) : Prop := ∀ row t, c.1[i]? = some row → c.2[i]? = some t → row.length = waysN c ∧ treeB t (waysN c) = true
def Shape (c : CacheD) : Prop := powB c.1.length = true ∧ c.2.length = c.1.length ∧ ∀ i, i < c.1.length → RowFit c i
open Classical in
noncomputable def shapeB (c : CacheD) : Bool := decide (Shape c)
theorem shape_yes {c : CacheD} (h : Shape c) : shapeB c = true := by simp [shapeB, h]
theorem shape_no {c : CacheD} (h : ¬ Shape c) : shapeB c = false := by simp [shapeB, h]
theorem cells_two {w : World} {g : Nat} {x y : Value} {t : TypeId} (h : w.heap[g]? = some (.cells #[x, y] t (0, 0))) :
    w.cell? ⟨g, 0, none⟩ = some x ∧ w.cell? ⟨g, 1, none⟩ = some y := cell_two h
theorem cells_three {w : World} {g : Nat} {x y z : Value} {t : TypeId} (h : w.heap[g]? = some (.cells #[x, y, z] t (0, 0))) :
    w.cell? ⟨g, 0, none⟩ = some x ∧ w.cell? ⟨g, 1, none⟩ = some y ∧ w.cell? ⟨g, 2, none⟩ = some z :=
 ⟨by rw [cell_of_row w g 0 _ t (0, 0) h]; rfl, by rw [cell_of_row w g 1 _ t (0, 0) h]; rfl, by rw [cell_of_row w g 2 _ t (0, 0) h]; rfl⟩
theorem set_at {w : World} {a : Option Addr} {xs : List (List WayD)} {j : Nat} {row : List WayD} (h : SlRd waysR w a xs) (hx : xs[j]? = some row) :
    ∃ b off aj cj, a = some ⟨b, off, none⟩ ∧ w.cell? ⟨b, off + j, none⟩ = some (.slice aj row.length cj) ∧ row.length ≤ cj ∧ cj ≤ maxLen ∧ SlRd wayR w aj row := by
 obtain ⟨b, off, c, rfl, ⟨aj, cj, rfl, h1, h2, h3⟩, hcell⟩ := slrd_at h hx
 have g1 := hcell 0 _ rfl
 rw [show j * waysR.size + 0 = j from Nat.mul_one j] at g1
 exact ⟨b, off, aj, cj, rfl, g1, h1, h2, h3⟩
theorem int_at {w : World} {a : Option Addr} {xs : List Int} {j : Nat} {x : Int} (h : SlRd intR w a xs) (hx : xs[j]? = some x) :
    ∃ b off, a = some ⟨b, off, none⟩ ∧ w.cell? ⟨b, off + j, none⟩ = some (.int .i64 x) := by
 obtain ⟨b, off, c, rfl, ⟨rfl, _⟩, hcell⟩ := slrd_at h hx
 have g1 := hcell 0 _ rfl
 rw [show j * intR.size + 0 = j from Nat.mul_one j] at g1
 exact ⟨b, off, rfl, g1⟩
attribute [local go_sem] Oper.semAt_some
def wayK (c : CacheD) (m k : Nat) : WayD := (c.1.getD (k / m) []).getD (k % m) emptyW
def UptoOk (c : CacheD) (m k : Nat) : Prop :=
 ∀ j, j < k → clearB (wayK c m j) = true ∨ (fullB isL (wayK c m j) = true ∧ (wayK c m j).1 % (c.1.length : Int) = (j / m : Nat) ∧ ∀ i, i < j → (wayK c m i).1 ≠ (wayK c m j).1)
open Classical in
open Classical in
noncomputable def waysB (c : CacheD) (m : Nat) : Bool := decide (UptoOk c m (c.1.length * m))
theorem waysB_yes {c : CacheD} {m : Nat} (h : UptoOk c m (c.1.length * m)) : waysB c m = true := by simp [waysB, h]
theorem waysB_no {c : CacheD} {m : Nat} (h : ¬ UptoOk c m (c.1.length * m)) : waysB c m = false := by simp [waysB, h]
theorem upto_next {c : CacheD} {m k : Nat} (h : UptoOk c m k) (hn : clearB (wayK c m k) = true ∨ (fullB isL (wayK c m k) = true ∧ (wayK c m k).1 % (c.1.length : Int) = (k / m : Nat) ∧ ∀ i, i < k → (wayK c m i).1 ≠ (wayK c m k).1)) : UptoOk c m (k + 1) := fun j hj => by
 by_cases he : j < k
 ·exact h j he
 ·have : j = k := by omega
  subst this
  exact hn
theorem wayK_get {c : CacheD} {m k : Nat} (hm : 0 < m) (hrow : ∀ row ∈ c.1, row.length = m) (hk : k < c.1.length * m) : ∃ row, c.1[k / m]? = some row ∧ row[k % m]? = some (wayK c m k) := by
 have h1 : k / m < c.1.length := by rw [Nat.div_lt_iff_lt_mul hm]; exact hk
 have h2 : k % m < m := Nat.mod_lt _ hm
 refine ⟨_, List.getElem?_eq_getElem h1, ?_⟩
 have h3 := hrow _ (List.getElem_mem h1)
 have e1 : c.1.getD (k / m) [] = c.1[k / m] := by rw [List.getD_eq_getElem?_getD, List.getElem?_eq_getElem h1]; rfl
 have : k % m < (c.1[k / m]).length := by omega
 rw [List.getElem?_eq_getElem this]
 unfold wayK
 rw [e1, List.getD_eq_getElem?_getD, List.getElem?_eq_getElem this]
 rfl
end Go.Proofs.YthnfkacboijneaaGreatDoor
