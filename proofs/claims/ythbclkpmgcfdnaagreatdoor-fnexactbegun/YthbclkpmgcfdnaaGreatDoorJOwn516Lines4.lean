
/- Own5, OpensBase, Pow, Layout, Layout2, Layout3, Range, Lines, Boxes, AppGen, CopyInts, Descs, DrawLn, DrawBox, Elem, Lines4. -/
import Derived.Test.YthbclkpmgcfdnaaGreatDoorJChange8Own
import Derived.LoopN
import Derived.Test.YthbclkpmgcfdnaaGreatDoorJLists8CacheFacts
import Derived.Below
import Derived.Deep.QuietTactic
import Derived.BigQuiet
import Derived.WalkSmall
import Derived.RangeFuncNested
import Derived.RangeFuncBound
import Derived.RangeFuncLeaves
import Derived.Shelf.Abstract
import Derived.Deep.RegionWith
import Derived.BigRegion
import Derived.WalkKit
import Derived.Maps.AppendAt
/- What is marked with rising numbers; lists of numbers as both laws tell them. No program here. -/
namespace Go.Proofs.YthbclkpmgcfdnaaGreatDoor
open Go.ChangeShapes Go.WideShapes Go.ChangeAt Go.RowKit
set_option linter.unusedVariables false
section
variable {α β : Type}
/-- cE, mE: as an element of a slice (its numbers too); cV, mV: by value (its slices alone); bk: how many elements in all. -/
structure Mk (α : Type) where
  cE : α → Nat
  mE : Int → α → α
  cV : α → Nat
  mV : Int → α → α
  bk : α → Nat
def intM : Mk Int := ⟨fun _ => 1, fun k _ => k, fun _ => 0, fun _ x => x, fun _ => 0⟩
def prodM (M : Mk α) (N : Mk β) : Mk (α × β) :=
  ⟨fun a => M.cE a.1 + N.cE a.2, fun k a => (M.mE k a.1, N.mE (k + M.cE a.1) a.2), fun a => M.cV a.1 + N.cV a.2, fun k a => (M.mV k a.1, N.mV (k + M.cV a.1) a.2), fun a => M.bk a.1 + N.bk a.2⟩
def sumbk (M : Mk α) (xs : List α) : Nat := (xs.map M.bk).sum
def slcnt (M : Mk α) (xs : List α) : Nat := (xs.map M.cE).sum
def slmark (M : Mk α) : Int → List α → List α
  | _, [] => []
  | k, x :: xs => M.mE k x :: slmark M (k + M.cE x) xs
def slM (M : Mk α) : Mk (List α) := ⟨slcnt M, slmark M, slcnt M, slmark M, fun xs => xs.length + sumbk M xs⟩
theorem slmark_len (M : Mk α) : ∀ (k : Int) (xs : List α), (slmark M k xs).length = xs.length
  | _, [] => rfl
  | k, x :: xs => by simp [slmark, slmark_len M _ xs]
theorem slcnt_step {M : Mk α} {xs : List α} {j : Nat} {x : α} (h : xs[j]? = some x) : slcnt M (xs.take (j + 1)) = slcnt M (xs.take j) + M.cE x := by
  simp [slcnt, List.take_add_one, h]
theorem slcnt_take (M : Mk α) (xs : List α) (j : Nat) : slcnt M (xs.take j) ≤ slcnt M xs := by
  have : slcnt M xs = slcnt M (xs.take j) + slcnt M (xs.drop j) := by
    conv => lhs; rw [← List.take_append_drop j xs]
    unfold slcnt
    rw [List.map_append, List.sum_append]
  omega
theorem slcnt_get {M : Mk α} {xs : List α} {j : Nat} {x : α} (h : xs[j]? = some x) : slcnt M (xs.take j) + M.cE x ≤ slcnt M xs := by
  have h1 := slcnt_step (M := M) h
  have h2 := slcnt_take M xs (j + 1)
  omega
theorem slmark_at {M : Mk α} : ∀ {xs : List α} {k : Int} {j : Nat} {x : α}, xs[j]? = some x → (slmark M k xs)[j]? = some (M.mE (k + slcnt M (xs.take j)) x)
  | [], k, j, x, h => by simp at h
  | y :: ys, k, 0, x, h => by
    simp at h
    subst h
    simp [slmark, slcnt]
  | y :: ys, k, j + 1, x, h => by
    simp at h
    have := slmark_at (M := M) (k := k + M.cE y) h
    simp only [slmark, List.getElem?_cons_succ, this, List.take_succ_cons, slcnt, List.map_cons, List.sum_cons]
    congr 2
    omega
theorem sumbk_step {M : Mk α} {xs : List α} {j : Nat} {x : α} (h : xs[j]? = some x) : sumbk M (xs.take (j + 1)) = sumbk M (xs.take j) + M.bk x := by
  simp [sumbk, List.take_add_one, h]
theorem sumbk_take (M : Mk α) (xs : List α) (j : Nat) : sumbk M (xs.take j) ≤ sumbk M xs := by
  have : sumbk M xs = sumbk M (xs.take j) + sumbk M (xs.drop j) := by
    conv => lhs; rw [← List.take_append_drop j xs]
    unfold sumbk
    rw [List.map_append, List.sum_append]
  omega
theorem sumbk_get {M : Mk α} {xs : List α} {j : Nat} {x : α} (h : xs[j]? = some x) : sumbk M (xs.take j) + M.bk x ≤ sumbk M xs := by
  have h1 := sumbk_step (M := M) h
  have h2 := sumbk_take M xs (j + 1)
  omega
def Bd (M : Mk α) (K : Nat) : Prop := ∀ x, M.cE x ≤ K * (1 + M.bk x)
theorem bd_int : Bd intM 1 := fun _ => by simp [intM]
theorem bd_prod {M : Mk α} {N : Mk β} {K L : Nat} (h : Bd M K) (k : Bd N L) : Bd (prodM M N) (K + L) := fun x => by
  have h1 := h x.1
  have h2 := k x.2
  show M.cE x.1 + N.cE x.2 ≤ (K + L) * (1 + (M.bk x.1 + N.bk x.2))
  have e1 : K * (1 + M.bk x.1) ≤ K * (1 + (M.bk x.1 + N.bk x.2)) := Nat.mul_le_mul_left _ (by omega)
  have e2 : L * (1 + N.bk x.2) ≤ L * (1 + (M.bk x.1 + N.bk x.2)) := Nat.mul_le_mul_left _ (by omega)
  rw [Nat.add_mul]
  omega
theorem slcnt_bd {M : Mk α} {K : Nat} (h : Bd M K) (xs : List α) : slcnt M xs ≤ K * (slM M).bk xs := by
  induction xs with
  | nil => exact Nat.zero_le _
  | cons x xs ih =>
    have h1 := h x
    have e : (slM M).bk (x :: xs) = (1 + M.bk x) + (slM M).bk xs := by
      simp [slM, sumbk]
      omega
    rw [e, Nat.mul_add]
    simp only [slcnt, List.map_cons, List.sum_cons] at ih ⊢
    omega
theorem bd_sl {M : Mk α} {K : Nat} (h : Bd M K) : Bd (slM M) K := fun xs => by
  have h1 := slcnt_bd h xs
  have h2 : K * (slM M).bk xs ≤ K * (1 + (slM M).bk xs) := Nat.mul_le_mul_left _ (by omega)
  exact Nat.le_trans h1 h2
/- The first j are marked. -/
def pmark (M : Mk α) (k : Int) (xs : List α) (j : Nat) : List α := (slmark M k xs).take j ++ xs.drop j
theorem pmark_zero (M : Mk α) (k : Int) (xs : List α) : pmark M k xs 0 = xs := by simp [pmark]
theorem pmark_all (M : Mk α) (k : Int) (xs : List α) : pmark M k xs xs.length = slmark M k xs := by
  simp [pmark, List.take_of_length_le (Nat.le_of_eq (slmark_len M k xs))]
theorem pmark_at {M : Mk α} {k : Int} {xs : List α} {j : Nat} {x : α} (h : xs[j]? = some x) : (pmark M k xs j)[j]? = some x := by
  have hj := (List.getElem?_eq_some_iff.1 h).1
  have hl : ((slmark M k xs).take j).length = j := by simp [slmark_len]; omega
  rw [pmark, List.getElem?_append_right (by omega), hl, Nat.sub_self, List.getElem?_drop]
  exact h
theorem pmark_step {M : Mk α} {k : Int} {xs : List α} {j : Nat} {x : α} (h : xs[j]? = some x) : (pmark M k xs j).set j (M.mE (k + slcnt M (xs.take j)) x) = pmark M k xs (j + 1) := by
  have hj := (List.getElem?_eq_some_iff.1 h).1
  have hl : ((slmark M k xs).take j).length = j := by simp [slmark_len]; omega
  have hm := slmark_at (M := M) (k := k) h
  rw [pmark, pmark, List.set_append_right _ _ (by omega), hl, Nat.sub_self, List.drop_eq_getElem_cons hj, List.set_cons_zero, List.take_add_one, hm]
  simp
/- Lists of numbers. -/
abbrev intsR : Rep (List Int) := slR 2 intR
abbrev intsM : Mk (List Int) := slM intM
theorem lrd_ints {w : World} : ∀ {rows : List Value} {xs : List Int}, lrd intR w rows xs ↔ rows = xs.map (Value.int .i64) ∧ ∀ x ∈ xs, In64 x
  | rows, [] => by simp [lrd]
  | rows, x :: xs => by
    constructor
    · rintro ⟨c1, c2, rfl, ⟨rfl, h1⟩, h2⟩
      obtain ⟨rfl, h3⟩ := lrd_ints.1 h2
      exact ⟨rfl, by simpa using ⟨h1, h3⟩⟩
    · rintro ⟨rfl, h⟩
      simp at h
      exact ⟨[.int .i64 x], xs.map (Value.int .i64), rfl, ⟨rfl, h.1⟩, lrd_ints.2 ⟨rfl, h.2⟩⟩
theorem lown_ints {w : World} {S : Foot} : ∀ {rows : List Value} {xs : List Int}, lrd intR w rows xs → lown intR w S rows xs
  | rows, [], h => h
  | rows, x :: xs, ⟨c1, c2, e, h1, h2⟩ => ⟨c1, c2, fun _ => False, S, e, h1, lown_ints h2, fun _ h => h.elim, Sub.refl _, fun _ h _ => h⟩
theorem reads_of {w : World} {a : Option Addr} {xs : List Int} (h : SlRd intR w a xs) : Reads w a xs := by
  rcases h with h | ⟨b, off, rows, rfl, h1, h2⟩
  · exact .inl h
  · obtain ⟨rfl, _⟩ := lrd_ints.1 h1
    refine .inr ⟨b, off, rfl, fun j hj => h2 j _ ?_⟩
    simp [List.getD_eq_getElem?_getD, List.getElem?_eq_getElem hj]
theorem in64_of {w : World} {a : Option Addr} {xs : List Int} (h : SlRd intR w a xs) : ∀ x ∈ xs, In64 x := by
  rcases h with rfl | ⟨b, off, rows, rfl, h1, h2⟩
  · simp
  · exact (lrd_ints.1 h1).2
theorem madeR_ints {w w' : World} {v : Value} {zs : List Int} (h : Made w w' v zs) (h64 : ∀ x ∈ zs, In64 x) : MadeR intsR w w' [v] zs := by
  obtain ⟨g, cap, rfl, h1, h2, h3, h4⟩ := h
  refine ⟨⟨_, zs.map (Value.int .i64), fun _ => False, rfl, row_base h3 (fun _ _ => Nat.zero_le _), fun g' hg => ?_, fun _ h => h.elim, lown_ints (lrd_ints.2 ⟨rfl, h64⟩)⟩, h4⟩
  simp [Value.ownBlock] at hg
  subst hg
  exact ⟨⟨h1, h2⟩, fun h => h⟩
theorem owni_of {S : Foot} {w : World} {v : Value} {zs : List Int} (h : intsR.own w S [v] zs) : (v = .slice none 0 0 ∧ zs = []) ∨ ∃ g cap, v = .slice (some ⟨g, 0, none⟩) zs.length cap ∧ S g ∧ OwnI 0 w g cap zs := by
  obtain ⟨v', rows, S', hv, hr, hg, hs, hl⟩ := h
  simp only [List.cons.injEq, and_true] at hv
  subst hv
  obtain ⟨rfl, _⟩ := lrd_ints.1 (lown_rd hl)
  rcases hr.2 with ⟨rfl, h0⟩ | ⟨g, cap, cur, rfl, rest⟩
  · exact .inl ⟨rfl, List.eq_nil_of_length_eq_zero h0⟩
  · exact .inr ⟨g, cap, rfl, (hg g rfl).1, hr⟩
theorem own_of {S : Foot} {B : Nat} {w : World} {g cap : Nat} {zs : List Int} (h : OwnI B w g cap zs) (hS : S g) (h64 : ∀ x ∈ zs, In64 x) : intsR.own w S [.slice (some ⟨g, 0, none⟩) zs.length cap] zs := by
  refine ⟨_, zs.map (Value.int .i64), fun _ => False, rfl, row_base h (fun _ _ => Nat.zero_le _), fun g' hg => ?_, fun _ h => h.elim, lown_ints (lrd_ints.2 ⟨rfl, h64⟩)⟩
  simp [Value.ownBlock] at hg
  subst hg
  exact ⟨hS, fun h => h⟩
theorem slcnt_ints (xs : List Int) : slcnt intM xs = xs.length := by
  induction xs with
  | nil => rfl
  | cons x xs ih =>
    simp only [slcnt, List.map_cons, List.sum_cons, List.length_cons] at ih ⊢
    rw [ih]
    simp [intM]
    omega
theorem slmark_ints : ∀ (k : Int) (xs : List Int), slmark intM k xs = seqs k xs.length
  | k, [] => rfl
  | k, x :: xs => by
    rw [slmark, slmark_ints]
    simp only [seqs, List.length_cons, List.range_succ_eq_map, List.map_cons, List.map_map, intM]
    congr 1
    · simp
    · apply List.map_congr_left
      intro a _
      simp
      omega
end
end Go.Proofs.YthbclkpmgcfdnaaGreatDoor
/- The contracts of the laws' own helpers over lists of numbers, in the one form that all types have. Conditions: lengths that a machine can hold. -/
namespace Go.Proofs.YthbclkpmgcfdnaaGreatDoor
open Go.ChangeShapes Go.WideShapes Go.ChangeAt Go.RowKit
set_option linter.unusedVariables false
def szI (n : Nat) (left : Int) : Int := if (n : Int) ≤ left then left - n else -1
theorem szI_yes {n : Nat} {left : Int} (h : (n : Int) ≤ left) : szI n left = left - n := by unfold szI; rw [if_pos h]
theorem szI_no {n : Nat} {left : Int} (h : ¬ (n : Int) ≤ left) : szI n left = -1 := by unfold szI; rw [if_neg h]

set_option maxHeartbeats 400000 in
theorem szInt64S_rep (a : Option Addr) (xs : List Int) (cap : Nat) (left : Int) (w : World) (h0 : 0 ≤ left) (h1 : left ≤ 1048576) (hm : xs.length ≤ maxLen) :
    Calls Tryz.prog 84 #[.slice a xs.length cap, .int .i64 left] w fun e w' => e = .returned (.int .i64 (szI (intsM.bk xs) left)) ∧ w' = w := by
  have hb : intsM.bk xs = xs.length := by
    show xs.length + sumbk intM xs = xs.length
    have : sumbk intM xs = 0 := by
      induction xs with
      | nil => rfl
      | cons x xs ih => simp only [sumbk, List.map_cons, List.sum_cons] at ih ⊢; rw [ih (by simp at hm; omega)]; rfl
    omega
  rw [hb]
  have hm' : xs.length ≤ 9223372036854775807 := hm
  clear hm hb
  generalize xs.length = n at hm'
  by_cases hl : (n : Int) ≤ left
  · have hl' : ¬ (left - (n : Int) < 0) := by omega
    rw [szI_yes hl]
    go_enter Tryz.func84, Tryz.ntmps84
    go_wp2
    go_ret
    exact ⟨rfl, rfl⟩
  · have hl' : left - (n : Int) < 0 := by omega
    rw [szI_no hl]
    go_enter Tryz.func84, Tryz.ntmps84
    go_wp2
    go_ret
    exact ⟨rfl, rfl⟩

theorem toInt64S_rep (a : Option Addr) (xs : List Int) (cap : Nat) (w : World) (h : SlRd intR w a xs) (hm : intsM.bk xs ≤ 1048576) :
    Calls Tryz.prog 88 #[.slice a xs.length cap] w fun e w' => ∃ v, e = .returned v ∧ MadeR intsR w w' [v] xs :=
  (toInts_any a xs cap w (reads_of h) (by have : intsM.bk xs = xs.length + sumbk intM xs := rfl; omega)).mono fun e w' ⟨v, h1, h2⟩ => ⟨v, h1, madeR_ints h2 (in64_of h)⟩

theorem eqInt64S_rep (a1 a2 : Option Addr) (xs : List Int) (c1 c2 : Nat) (w : World) (h1 : SlRd intR w a1 xs) (h2 : SlRd intR w a2 xs) (hm : intsM.bk xs ≤ 1152921504606846976) :
    Calls Tryz.prog 92 #[.slice a1 xs.length c1, .slice a2 xs.length c2] w fun e w' => e = .returned (.bool true) ∧ ∃ n, w' = w.drewN n :=
  eqInts_any a1 a2 xs c1 c2 w (reads_of h1) (reads_of h2) (by have : intsM.bk xs = xs.length + sumbk intM xs := rfl; omega)

set_option maxHeartbeats 400000 in
theorem markInt64S_nil (k : Int) (w : World) :
    Calls Tryz.prog 96 #[.slice none 0 0, .int .i64 k] w fun e' w' => e' = .returned (.int .i64 k) ∧ w' = w := by
  go_enter Tryz.func96, Tryz.ntmps96
  go_wp2
  refine wp_loop_rounds 1 ?_
  rw [rounds_succ]
  go_wp2
  go_ret
  exact ⟨rfl, rfl⟩
theorem seqs_in64 {k : Int} {n : Nat} (h0 : 0 ≤ k) (h1 : k ≤ 1152921504606846976) (hm : n ≤ 1152921504606846976) : ∀ x ∈ seqs k n, In64 x := by
  intro x hx
  simp only [seqs, List.mem_map, List.mem_range] at hx
  obtain ⟨j, hj, rfl⟩ := hx
  constructor <;> omega
theorem markInt64S_rep (S : Foot) (v : Value) (k : Int) (xs : List Int) (w : World) (h0 : 0 ≤ k) (h1 : k ≤ 1152921504606846976) (hm : slcnt intM xs ≤ 1152921504606846976) (h : intsR.own w S [v] xs) :
    Calls Tryz.prog 96 #[v, .int .i64 k] w fun e' w' => e' = .returned (.int .i64 (k + slcnt intM xs)) ∧ intsR.own w' S [v] (slmark intM k xs) ∧ Chg S w w' := by
  rw [slcnt_ints] at hm ⊢
  rw [slmark_ints]
  rcases owni_of h with ⟨rfl, rfl⟩ | ⟨g, cap, rfl, hS, ho⟩
  · exact (markInt64S_nil k w).mono fun e w' ⟨e1, e2⟩ => ⟨by simpa using e1, by rw [e2]; exact h, by rw [e2]; exact Chg.refl _ _⟩
  · refine (mark_any 0 _ g cap k xs.length _ w h0 (by omega) (by omega) ho).mono fun e w' ⟨e1, e2, e3⟩ => ⟨e1, ?_, chg_grown e3 hS⟩
    have := own_of (S := S) (B := 0) (w := w') (g := g) (cap := cap) (zs := seqs k xs.length) (by unfold OwnI; rw [seqs_len]; exact e2) hS (seqs_in64 h0 h1 hm)
    rwa [seqs_len] at this

theorem heldInt64S_rep (a : Option Addr) (cap : Nat) (k : Int) (xs : List Int) (w : World) (h0 : 0 ≤ k) (h1 : k ≤ 1152921504606846976) (hm : slcnt intM xs ≤ 1152921504606846976) (h : SlRd intR w a (slmark intM k xs)) :
    Calls Tryz.prog 100 #[.slice a xs.length cap, .int .i64 k] w fun e' w' => e' = .returned (.int .i64 (k + slcnt intM xs)) ∧ w' = w := by
  rw [slcnt_ints] at hm ⊢
  rw [slmark_ints] at h
  exact held_any a cap k xs.length w h0 (by omega) (by omega) (reads_of h)
end Go.Proofs.YthbclkpmgcfdnaaGreatDoor
/- What is more to be said of slices that a call owns. No program here. -/
namespace Go.Proofs.YthbclkpmgcfdnaaGreatDoor
open Go.ChangeShapes Go.WideShapes Go.ChangeAt Go.RowKit
set_option linter.unusedVariables false
section
variable {α β : Type}
theorem fill_below {e : TypeId} {R : Rep α} {w0 w : World} {n : Nat} {xs : List α} (h : Fill e R w0 w n xs) : Below w0.heap.size w0 w := by
  obtain ⟨_, _, _, _, hb, _⟩ := h
  exact hb
theorem slown_form {e : TypeId} {R : Rep α} {w : World} {S : Foot} {v : Value} {xs : List α} (h : (slR e R).own w S [v] xs) : (v = .slice none 0 0 ∧ xs = []) ∨ ∃ g cap, v = .slice (some ⟨g, 0, none⟩) xs.length cap ∧ S g := by
  obtain ⟨v', rows, S', hv, hr, hg, hs, hl⟩ := h
  simp only [List.cons.injEq, and_true] at hv
  subst hv
  rcases hr.2 with ⟨rfl, h0⟩ | ⟨g, cap, cur, rfl, rest⟩
  · exact .inl ⟨rfl, List.eq_nil_of_length_eq_zero h0⟩
  · exact .inr ⟨g, cap, rfl, (hg g rfl).1⟩
theorem slown_val {e : TypeId} {R : Rep α} {w : World} {S : Foot} {v : Value} {xs : List α} (h : (slR e R).own w S [v] xs) : ∃ a c, v = .slice a xs.length c := by
  rcases slown_form h with ⟨rfl, rfl⟩ | ⟨g, cap, rfl, _⟩
  · exact ⟨none, 0, rfl⟩
  · exact ⟨_, _, rfl⟩
end
end Go.Proofs.YthbclkpmgcfdnaaGreatDoor
/- The types of this program as they read: numbers, lists, lists of lists; and how the older words for lists of lists go with the one form. No condition. -/
namespace Go.Proofs.YthbclkpmgcfdnaaGreatDoor
open Go.ChangeShapes Go.WideShapes Go.ChangeAt Go.RowKit
set_option linter.unusedVariables false
theorem opens_i64 : Opens Tryz.prog 2 intR := opens_int Tryz.underlying2
theorem opens_ints : Opens Tryz.prog 25 intsR := opens_slice Tryz.underlying25 (by kernel_rfl) Nat.zero_lt_one opens_i64

end Go.Proofs.YthbclkpmgcfdnaaGreatDoor
/- The contracts of the functions that ask for 1, 2 or 4. No condition. -/
namespace Go.Proofs.YthbclkpmgcfdnaaGreatDoor
open Go.ChangeShapes Go.WideShapes Go.ChangeAt Go.RowKit
def powB (n : Int) : Bool := decide (n = 1 ∨ n = 2 ∨ n = 4)

set_option maxHeartbeats 400000 in
theorem sizeOk_any (n : Int) (w : World) :
    Calls Tryz.prog 118 #[.int .i64 n] w fun e w' => e = .returned (.bool (powB n)) ∧ w' = w := by
  go_enter Tryz.func118, Tryz.ntmps118
  go_wp2
  all_goals go_ret
  all_goals refine ⟨ret_bool ?_, rfl⟩
  all_goals first | (simp_all [powB]; done) | (rw [Bool.eq_iff_iff]; simp [powB]; omega)

set_option maxHeartbeats 400000 in
theorem l2Pow_any (n : Int) (w : World) :
    Calls Tryz.prog 133 #[.int .i64 n] w fun e w' => e = .returned (.bool (powB n)) ∧ w' = w := by
  go_enter Tryz.func133, Tryz.ntmps133
  go_wp2
  all_goals go_ret
  all_goals refine ⟨ret_bool ?_, rfl⟩
  all_goals first | (simp_all [powB]; done) | (rw [Bool.eq_iff_iff]; simp [powB]; omega)
end Go.Proofs.YthbclkpmgcfdnaaGreatDoor
/- The contracts of the layout: codes, lines, words, sets, addresses, of the program and of its specification. No condition. -/
namespace Go.Proofs.YthbclkpmgcfdnaaGreatDoor
open Go.ChangeShapes Go.WideShapes Go.ChangeAt Go.RowKit
end Go.Proofs.YthbclkpmgcfdnaaGreatDoor
/- The contracts of lines, words, sets and addresses, of the program and of its specification. No condition. -/
namespace Go.Proofs.YthbclkpmgcfdnaaGreatDoor
open Go.ChangeShapes Go.WideShapes Go.ChangeAt Go.RowKit
end Go.Proofs.YthbclkpmgcfdnaaGreatDoor
/- The contracts of lines and words of an address, of the program and of its specification. No condition. -/
namespace Go.Proofs.YthbclkpmgcfdnaaGreatDoor
open Go.ChangeShapes Go.WideShapes Go.ChangeAt Go.RowKit
end Go.Proofs.YthbclkpmgcfdnaaGreatDoor
/- A range over a function whose iterator is known by what it hands out, round by round. No program here. -/
namespace Go.Proofs.YthbclkpmgcfdnaaGreatDoor
open Go.ChangeShapes Go.WideShapes Go.ChangeAt Go.RowKit Go.Shelf
set_option linter.unusedVariables false
section
variable {P : Program}
/-- No block from B on that was there has turned. -/
def Kept (B : Nat) (W W' : World) : Prop := W.heap.size ≤ W'.heap.size ∧ ∀ k, B ≤ k → k < W.heap.size → W'.heap[k]? = W.heap[k]?
theorem Kept.refl (B : Nat) (W : World) : Kept B W W := ⟨Nat.le_refl _, fun _ _ _ => rfl⟩
theorem Kept.trans {B : Nat} {U V W : World} (h : Kept B U V) (k : Kept B V W) : Kept B U W := ⟨Nat.le_trans h.1 k.1, fun i hi hl => (k.2 i hi (Nat.lt_of_lt_of_le hl h.1)).trans (h.2 i hi hl)⟩
theorem Kept.mono {B B' : Nat} {W W' : World} (h : Kept B W W') (hb : B ≤ B') : Kept B' W W' := ⟨h.1, fun i hi hl => h.2 i (Nat.le_trans hb hi) hl⟩
theorem Kept.below {B : Nat} {W W' : World} (h : Below W.heap.size W W') : Kept B W W' := ⟨h.size, fun i _ hl => h.block i hl⟩
theorem Kept.chg {B : Nat} {S : Foot} {W W' : World} (h : Chg S W W') (hS : ∀ k, S k → k < B) : Kept B W W' := ⟨h.size, fun i hi hl => h.block i hl fun x => by have := hS i x; omega⟩
theorem Kept.alloc (B : Nat) (W : World) (o : Obj) : Kept B W (W.alloc o) := ⟨by simp, fun i _ hl => Below.heap_alloc W o i hl⟩
theorem Kept.put {B l : Nat} (W : World) (o : Obj) (h : l < B) : Kept B W (W.putObj l o) := ⟨by simp, fun i hi _ => World.putObj_heap_other (by omega)⟩
theorem own_later {β : Type} {B B' : Nat} {I : β → World → Prop} (h : OwnFrom B I) (hb : B ≤ B') : OwnFrom B' I := fun s W W' row hs hg hr => h s W W' row hs hg (fun r e => ⟨Nat.le_trans hb (hr r e).1, (hr r e).2⟩)
theorem own_heap {β : Type} (B k : Nat) (cs : Array Value) (t : TypeId) : OwnFrom B (fun (_ : β) W => W.heap[k]? = some (.cells cs t (0, 0))) := fun s X Y row hs hg hr => by
  refine (hg.block k (Array.getElem?_eq_some_iff.1 hs).1 fun e => ?_).trans hs
  obtain ⟨o, ho, hc⟩ := (hr k e.symm).2
  rw [hs] at ho
  cases ho
  cases hc
/-- The iterator g with its captured lb hands out 'args 0', .., 'args (N - 1)' in this order, for as long as it is told to go on. 'R': what it must find in memory between any two rounds. J: what holds when so many rounds are over; Jx: what holds when the round of this number has said 'no more'. -/
def Iter (P : Program) (g : Nat) (lb : Array Value) (args : Nat → Array Value) (N : Nat) (R : World → Prop) : Prop :=
  ∀ (l : Nat) (J Jx : Nat → World → Prop) (W : World), OwnFrom W.heap.size J → OwnFrom W.heap.size Jx → (∀ k W1, J k W1 → R W1) →
    (∀ k W1, k < N → J k W1 → YieldAt Fence.wide 0 P l (args k) W1 fun e W' => Kept W.heap.size W1 W' ∧ ((e = .returned (.bool true) ∧ J (k + 1) W') ∨ (e = .returned (.bool false) ∧ Jx k W'))) →
    J 0 W → CallsIn Fence.wide 0 P g (#[.func (.yield l) #[] #[]] ++ lb) W fun e W' => (∃ v, e = .returned v) ∧ (J N W' ∨ ∃ k, k < N ∧ Jx k W')
/-- How a round's body may be left. -/
def roundsOn (B : Nat) (I : Nat → World → Prop) (Ix : Code → Nat → World → Prop) (k : Nat) (W : World) : Exit → Act → World → Prop
  | .normal, _, W' => Kept B W W' ∧ I (k + 1) W'
  | .ret, _, W' => Kept B W W' ∧ Ix .ret k W'
  | .exit id, _, W' => Kept B W W' ∧ Ix (.exit id) k W'
  | .goto t, _, W' => Kept B W W' ∧ Ix (.goto t) k W'
  | .panic _, _, _ => False
  | .outgrown, _, _ => False
theorem range_iter {g : Operand} {ps : Array Tmp} {assign body : Code} {Q : Exit → Act → World → Prop} {a : Act} {w : World} {gf : Nat} {lb : Array Value}
    (hg : a.eval g = .func (.func gf) #[] lb) (eg : Enters P gf)
    {args : Nat → Array Value} {N : Nat} {R : World → Prop} (it : Iter P gf lb args N R) (hps : ∀ k, (args k).size = ps.size)
    (I : Nat → World → Prop) (Ix : Code → Nat → World → Prop) (hI : OwnFrom w.heap.size I) (hIx : ∀ c, OwnFrom w.heap.size (Ix c)) (hR : ∀ k W, I k W → R W) (h0 : I 0 w) (A : Nat → Act → World → Prop) (hA : ∀ k a', OwnFrom w.heap.size (fun (_ : Unit) W => A k a' W))
    (hassign : ∀ (k : Nat) (W : World) (K : Act → World → Prop), k < N → I k W → w.heap.size + 1 < W.heap.size → (∀ a' W', Kept w.heap.size W W' → A k a' W' → K a' W') → assign.wpIn (Fence.wide.inRound (w.heap.size + 1)) 0 P (Exit.then K (fun _ _ _ => False)) { tmps := (ps.zip (args k)).foldl (fun t (p, v) => t.setIfInBounds p v) a.tmps, defers := [] } W)
    (hbody : ∀ (k : Nat) (a' : Act) (W : World), k < N → A k a' W → w.heap.size + 1 < W.heap.size → W.heap[w.heap.size]? = some (.deferred (some [])) → (∃ r, W.heap[w.heap.size + 1]? = some (.loop r)) → body.wpIn (Fence.wide.inRound (w.heap.size + 1)) 0 P (roundsOn w.heap.size I Ix k W) a' W)
    (hdone : ∀ W, I N W → W.heap[w.heap.size]? = some (.deferred (some [])) → Q .normal { a with defers := { target := .collected w.heap.size, args := #[] } :: a.defers } W)
    (hstop : ∀ c k W, k < N → Ix c k W → W.heap[w.heap.size]? = some (.deferred (some [])) → c.wpIn Fence.wide 0 P Q { a with defers := { target := .collected w.heap.size, args := #[] } :: a.defers } W) :
    (Code.rangeFunc g ps assign body).wpIn Fence.wide 0 P Q a w := by
  refine wpIn_rangeFunc fun fn hfn => ?_
  let lp : LoopState → Option Code → Obj := fun st pe => .loop { state := st, pending := pe, fn, tmps := a.tmps, params := ps, assign, body, defers := w.heap.size }
  have keep : ∀ {A B : World} {row : Option Nat} {st : LoopState} {pe : Option Code}, A.grownBy B row → (∀ r, row = some r → w.heap.size + 2 ≤ r ∧ ∃ o : Obj, A.heap[r]? = some o ∧ o.isCells = false) → A.heap[w.heap.size + 1]? = some (lp st pe) → A.heap[w.heap.size]? = some (.deferred (some [])) →
      B.heap[w.heap.size + 1]? = some (lp st pe) ∧ B.heap[w.heap.size]? = some (.deferred (some [])) := by
    intro A B row st pe hgr hr h1 h2
    have l1 := (Array.getElem?_eq_some_iff.1 h1).1
    refine ⟨(hgr.block _ l1 fun e => ?_).trans h1, (hgr.block _ (by omega) fun e => ?_).trans h2⟩
    · have := (hr _ e.symm).1
      omega
    · have := (hr _ e.symm).1
      omega
  have more : ∀ {A B : World} {row : Option Nat}, (∀ r, row = some r → w.heap.size + 2 ≤ r ∧ ∃ o : Obj, A.heap[r]? = some o ∧ o.isCells = false) → ∀ r, row = some r → w.heap.size ≤ r ∧ ∃ o : Obj, A.heap[r]? = some o ∧ o.isCells = false :=
    fun hr r e => ⟨by have := (hr r e).1; omega, (hr r e).2⟩
  have sz : ((w.alloc (.deferred (some []))).alloc (lp .ready none)).heap.size = w.heap.size + 2 := by simp
  refine ⟨w.heap.size + 1, [{ target := .collected w.heap.size, args := #[] }], (w.alloc (.deferred (some []))).alloc (lp .ready none), { target := .fn (.func gf) lb, args := #[.func (.yield (w.heap.size + 1)) #[] #[]] }, (w.alloc (.deferred (some []))).alloc (lp .ready none), gf,
    #[.func (.yield (w.heap.size + 1)) #[] #[]] ++ lb, (w.alloc (.deferred (some []))).alloc (lp .ready none), run_enterLoop_outer _ _ _ _ _, ?_, fun _ _ => trivial, ?_, (fun h => by cases h), ?_⟩
  · simp only [resolve, hg]
    simp [go_sem]
  · have eg' : ∀ args w, (callFunc gf args).run P w = .ok (.enter gf args) w := eg
    simp [invoke, go_sem, eg']
  refine (it (w.heap.size + 1) (fun k W => I k W ∧ W.heap[w.heap.size + 1]? = some (lp .ready none) ∧ W.heap[w.heap.size]? = some (.deferred (some [])))
    (fun k W => ∃ c, Ix c k W ∧ W.heap[w.heap.size + 1]? = some (lp .done (some c)) ∧ W.heap[w.heap.size]? = some (.deferred (some []))) _ ?_ ?_ (fun k W h => hR k W h.1) ?_ ⟨?_, ?_, ?_⟩).mono ?_
  · rintro k A B row ⟨h1, h2, h3⟩ hgr hr
    rw [sz] at hr
    exact ⟨hI k A B row h1 hgr (more (B := B) hr), keep hgr hr h2 h3⟩
  · rintro k A B row ⟨c, h1, h2, h3⟩ hgr hr
    rw [sz] at hr
    exact ⟨c, hIx c k A B row h1 hgr (more (B := B) hr), keep hgr hr h2 h3⟩
  · rintro k W hk ⟨hi, hl, hd⟩
    have hlt := (Array.getElem?_eq_some_iff.1 hl).1
    refine ⟨fn, _, assign, body, run_yield hl (hps k), roundIn_of_wpIn hfn (hassign k W _ hk hi hlt ?_)⟩
    clear hi
    intro a' Wa hka hax
    replace hl := (hka.2 _ (by omega) hlt).trans hl
    replace hd := (hka.2 _ (Nat.le_refl _) (by omega)).trans hd
    clear hlt
    replace hka : Kept ((w.alloc (.deferred (some []))).alloc (lp .ready none)).heap.size W Wa := hka.mono (by rw [sz]; omega)
    have hks : ∀ V o, Kept ((w.alloc (.deferred (some []))).alloc (lp .ready none)).heap.size V (V.putObj (w.heap.size + 1) o) := fun V o => Kept.put V o (by rw [sz]; omega)
    revert hka
    generalize W = Wb
    intro hka
    obtain ⟨W, rfl⟩ : ∃ W, W = Wa := ⟨_, rfl⟩
    have hlt := (Array.getElem?_eq_some_iff.1 hl).1
    refine ⟨_, run_beginRound hl rfl, ?_⟩
    have hl2 : (W.putObj (w.heap.size + 1) (lp .busy none)).heap[w.heap.size + 1]? = some (lp .busy none) := World.putObj_heap_same hlt
    have hd2 : (W.putObj (w.heap.size + 1) (lp .busy none)).heap[w.heap.size]? = some (.deferred (some [])) := (World.putObj_heap_other (by omega)).trans hd
    refine wpIn_mono (hbody k a' _ hk ((hA k a').putObj (s := ()) _ hax (by omega) hl rfl) (by simpa using hlt) hd2 ⟨_, hl2⟩) ?_
    have fin : ∀ (jump : Option Code) (W3 : World), Kept w.heap.size (W.putObj (w.heap.size + 1) (lp .busy none)) W3 →
        Kept ((w.alloc (.deferred (some []))).alloc (lp .ready none)).heap.size Wb (W3.putObj (w.heap.size + 1) (lp (if jump.isNone then .ready else .done) jump)) ∧
        (Instr.endRound (w.heap.size + 1) jump).run P W3 = .ok (.bool jump.isNone) (W3.putObj (w.heap.size + 1) (lp (if jump.isNone then .ready else .done) jump)) ∧ W3.heap[w.heap.size + 1]? = some (lp .busy none) ∧
        (W3.putObj (w.heap.size + 1) (lp (if jump.isNone then .ready else .done) jump)).heap[w.heap.size + 1]? = some (lp (if jump.isNone then .ready else .done) jump) ∧
        (W3.putObj (w.heap.size + 1) (lp (if jump.isNone then .ready else .done) jump)).heap[w.heap.size]? = some (.deferred (some [])) := by
      intro jump W3 e0
      have e2 := (e0.2 _ (by omega) (by simpa using hlt)).trans hl2
      have e1 := (e0.2 _ (Nat.le_refl _) (by simp; omega)).trans hd2
      exact ⟨((hka.trans (hks _ _)).trans (e0.mono (by rw [sz]; omega))).trans (hks _ _), run_endRound jump e2, e2, World.putObj_heap_same (Array.getElem?_eq_some_iff.1 e2).1, (World.putObj_heap_other (by omega)).trans e1⟩
    intro e a3 W3 hp
    cases e with
    | normal =>
      obtain ⟨e0, hi3⟩ := hp
      obtain ⟨hkk, hr, hl3, hl4, hk4⟩ := fin none W3 e0
      exact ⟨_, _, hr, hkk, .inl ⟨rfl, hI.putObj _ hi3 (by omega) hl3 rfl, hl4, hk4⟩⟩
    | ret =>
      obtain ⟨e0, hi3⟩ := hp
      obtain ⟨hkk, hr, hl3, hl4, hk4⟩ := fin (some .ret) W3 e0
      exact ⟨_, _, hr, hkk, .inr ⟨rfl, .ret, (hIx _).putObj _ hi3 (by omega) hl3 rfl, hl4, hk4⟩⟩
    | exit id =>
      obtain ⟨e0, hi3⟩ := hp
      obtain ⟨hkk, hr, hl3, hl4, hk4⟩ := fin (some (.exit id)) W3 e0
      exact ⟨_, _, hr, hkk, .inr ⟨rfl, .exit id, (hIx _).putObj _ hi3 (by omega) hl3 rfl, hl4, hk4⟩⟩
    | goto t =>
      obtain ⟨e0, hi3⟩ := hp
      obtain ⟨hkk, hr, hl3, hl4, hk4⟩ := fin (some (.goto t)) W3 e0
      exact ⟨_, _, hr, hkk, .inr ⟨rfl, .goto t, (hIx _).putObj _ hi3 (by omega) hl3 rfl, hl4, hk4⟩⟩
    | panic ch => exact hp.elim
    | outgrown => exact hp.elim
  · exact hI.alloc _ (hI.alloc _ h0)
  · have := World.alloc_heap_new (w.alloc (.deferred (some []))) (lp .ready none)
    rwa [World.size_alloc] at this
  · exact (Below.heap_alloc _ _ _ (by simp)).trans (World.alloc_heap_new w _)
  · rintro e W ⟨⟨v, rfl⟩, ⟨hi, hl, hd⟩ | ⟨k, hk, c, hi, hl, hd⟩⟩
    · exact ⟨none, _, run_endLoop hl (by simp), hdone _ (hI.putObj _ hi (by omega) hl rfl) ((World.putObj_heap_other (by omega)).trans hd)⟩
    · exact ⟨some c, _, run_endLoop hl (by simp), hstop c k _ hk ((hIx c).putObj _ hi (by omega) hl rfl) ((World.putObj_heap_other (by omega)).trans hd)⟩
end
end Go.Proofs.YthbclkpmgcfdnaaGreatDoor
/- The contracts of lines: two words as an array that is compared, of the program and of its specification. No condition. -/
namespace Go.Proofs.YthbclkpmgcfdnaaGreatDoor
open Go.ChangeShapes Go.WideShapes Go.ChangeAt Go.RowKit
def press (x : Int) : Int := min (max x 0) 9999
def okW (x : Int) : Bool := betw x 0 9999

set_option maxHeartbeats 1000000 in
theorem pressed_any (a b : Int) (w : World) :
    Calls Tryz.prog 211 #[.agg #[.int .i64 a, .int .i64 b]] w fun e w' => e = .returned (.agg #[.int .i64 (press a), .int .i64 (press b)]) ∧ Below w.heap.size w w' := by
  have B := (Below.refl w.heap.size w).alloc (Nat.le_refl _)
  go_enter Tryz.func211, Tryz.ntmps211
  go_wp2
  refine wp_loop_rounds 3 ?_
  rw [rounds_succ]
  go_wp2
  all_goals rw [rounds_succ]
  all_goals go_wp2
  all_goals rw [rounds_succ]
  all_goals go_wp2
  all_goals
    refine bodyPost_ret (v := .agg #[.int .i64 (press a), .int .i64 (press b)]) ?_ rfl ⟨rfl, ?_⟩
    · simp [results, Tryz.results211, go_sem]; first | done | (unfold press; omega) | (constructor <;> unfold press <;> omega)
    · exact (B _).alloc (by simp) _
theorem alloc_len (w : World) (o : Obj) : (w.alloc o).heap.size = w.heap.size + 1 := by simp
theorem cell_two {w : World} {g : Nat} {x y : Value} {t : TypeId} (h : w.heap[g]? = some (.cells #[x, y] t (0, 0))) :
    w.cell? ⟨g, 0, none⟩ = some x ∧ w.cell? ⟨g, 1, none⟩ = some y :=
  ⟨by rw [cell_of_row w g 0 _ t (0, 0) h]; rfl, by rw [cell_of_row w g 1 _ t (0, 0) h]; rfl⟩
theorem row_keep {w w' : World} {g : Nat} {o : Obj} (hb : Below w.heap.size w w') (h : w.heap[g]? = some o) : w'.heap[g]? = some o :=
  (hb.block g (Array.getElem?_eq_some_iff.1 h).1).trans h

theorem two_eq (a b c d : Int) (w : World) : (Op.equalIn 10000 201 (.agg #[.int .i64 a, .int .i64 b]) (.agg #[.int .i64 c, .int .i64 d])).run Tryz.prog w = .ok (a == c && b == d) w := by
  have u3 := Tryz.underlying2
  have a3 := Tryz.isAgg2
  have z3 := Tryz.sizeOf2
  rw [show (10000 : Nat) = 9999 + 1 from rfl, Op.equalIn]
  simp only [Sem.run_bind, run_underlying Tryz.underlying201, Result.andThen_ok]
  simp only [Std.Legacy.Range.forIn_eq_forIn_range', Std.Legacy.Range.size, Nat.sub_zero, Nat.add_sub_cancel, Nat.div_one, List.range'_succ, List.range'_zero, List.forIn_cons, List.forIn_nil]
  go_simp
  by_cases h1 : a = c <;> by_cases h2 : b = d <;> simp [h1, h2]
theorem press_eq (x : Int) : (x == press x) = okW x := by
  rw [Bool.eq_iff_iff]; simp [press, okW, betw]; omega

set_option maxHeartbeats 400000 in
theorem twoOk_any (a b : Int) (w : World) :
    Calls Tryz.prog 207 #[.agg #[.int .i64 a, .int .i64 b]] w fun e w' => e = .returned (.bool (okW a && okW b)) ∧ Below w.heap.size w w' := by
  have B := (Below.refl w.heap.size w).alloc (Nat.le_refl _)
  go_enter Tryz.func207, Tryz.ntmps207
  go_wp2
  have R := heap_alloc_new w (.cells #[.int .i64 a, .int .i64 b] 201)
  have BB := (B (.cells #[.int .i64 a, .int .i64 b] 201)).drew
  generalize w.alloc (.cells #[.int .i64 a, .int .i64 b] 201) = W at R BB ⊢
  obtain ⟨q0, q1⟩ := cell_two R
  have E := two_eq a b (press a) (press b)
  go_region_with (go_at_call 211
                  refine (pressed_any a b _).mono ?_
                  rintro e w' ⟨rfl, hb⟩
                  replace R := row_keep hb R
                  replace BB := BB.trans (hb.mono BB.size)
                  clear q0 q1 hb
                  obtain ⟨q0, q1⟩ := cell_two R)
  all_goals
    go_wp2
    go_ret
    exact ⟨ret_bool (by rw [press_eq, press_eq]), BB⟩

set_option maxHeartbeats 400000 in
theorem twoList_any (a b : Int) (w : World) :
    Calls Tryz.prog 191 #[.agg #[.int .i64 a, .int .i64 b]] w fun e w' => ∃ v, e = .returned v ∧ Made w w' v [a, b] := by
  have B := (Below.refl w.heap.size w).alloc (Nat.le_refl _)
  go_enter Tryz.func191, Tryz.ntmps191
  go_wp2
  go_ret
  have M := made_lit (w.alloc (.cells #[.int .i64 a, .int .i64 b] 201)) #[.int .i64 a, .int .i64 b] [a, b] rfl (by unfold maxLen; simp)
  rw [alloc_len] at M
  exact ⟨_, rfl, made_step (B _) M⟩
end Go.Proofs.YthbclkpmgcfdnaaGreatDoor
/- The contracts of the two words that a list gives, of the program: a line, or none. No condition. -/
namespace Go.Proofs.YthbclkpmgcfdnaaGreatDoor
open Go.ChangeShapes Go.WideShapes Go.ChangeAt Go.RowKit
theorem froz_two {w : World} {g : Nat} {cs : Array Value} {t : TypeId} (h : w.heap[g]? = some (.cells cs t (0, 0))) :
    w.frozen? ⟨g, 0, none⟩ = false ∧ w.frozen? ⟨g, 1, none⟩ = false := ⟨frozen_of_row w g 0 _ t h, frozen_of_row w g 1 _ t h⟩
theorem reads_two {w : World} {a : Option Addr} {x y : Int} (h : Reads w a [x, y]) : ∃ b off, a = some ⟨b, off, none⟩ ∧ w.cell? ⟨b, off, none⟩ = some (.int .i64 x) ∧ w.cell? ⟨b, off + 1, none⟩ = some (.int .i64 y) := by
  rcases h with h | ⟨b, off, ha, hc⟩
  · simp at h
  · exact ⟨b, off, ha, hc 0 (by simp), hc 1 (by simp)⟩

set_option maxHeartbeats 400000 in
theorem wordsOf_not (a : Option Addr) (n cap : Nat) (w : World) (hn : n ≠ 2) :
    Calls Tryz.prog 189 #[.slice a n cap] w fun e w' => e = .returned (.tuple #[.agg #[.int .i64 0, .int .i64 0], .bool false]) ∧ Below w.heap.size w w' := by
  have B := (Below.refl w.heap.size w).alloc (Nat.le_refl _)
  have hn' : ((n : Int) == 2) = false := by simp; omega
  go_enter Tryz.func189, Tryz.ntmps189
  go_wp2
  refine bodyPost_ret (v := .tuple #[.agg #[.int .i64 0, .int .i64 0], .bool false]) (by simp [results, Tryz.results189, go_sem]) rfl ⟨rfl, B _⟩

set_option maxHeartbeats 1000000 in
theorem wordsOf_two (a : Option Addr) (x y : Int) (cap : Nat) (w : World) (h : Reads w a [x, y]) :
    Calls Tryz.prog 189 #[.slice a 2 cap] w fun e w' => e = .returned (.tuple #[.agg #[.int .i64 x, .int .i64 y], .bool (okW x && okW y)]) ∧ Below w.heap.size w w' := by
  have B := (Below.refl w.heap.size w).alloc (Nat.le_refl _)
  obtain ⟨b, off, rfl, c0, c1⟩ := reads_two h
  have l0 := World.block_lt_of_cell? w _ c0
  go_enter Tryz.func189, Tryz.ntmps189
  go_wp2
  go_region
  go_wp2
  have R : ((w.alloc (.cells #[.int .i64 0, .int .i64 0] 201)).alloc (.cells #[.int .i64 x, .int .i64 y] 201)).drew.heap[w.heap.size]? = some (.cells #[.int .i64 0, .int .i64 0] 201 (0, 0)) := by
    show ((w.alloc (.cells #[.int .i64 0, .int .i64 0] 201)).alloc (.cells #[.int .i64 x, .int .i64 y] 201)).heap[w.heap.size]? = _
    rw [Below.heap_alloc _ _ _ (by simp)]
    exact heap_alloc_new w _
  have X : ((w.alloc (.cells #[.int .i64 0, .int .i64 0] 201)).alloc (.cells #[.int .i64 x, .int .i64 y] 201)).drew.heap[w.heap.size + 1]? = some (.cells #[.int .i64 x, .int .i64 y] 201 (0, 0)) := by
    rw [← alloc_len w (.cells #[.int .i64 0, .int .i64 0] 201)]
    exact heap_alloc_new (w.alloc (.cells #[.int .i64 0, .int .i64 0] 201)) _
  have BB := (((B (.cells #[.int .i64 0, .int .i64 0] 201)).alloc (by simp) (.cells #[.int .i64 x, .int .i64 y] 201)).drew).drew
  clear c0 c1 h
  generalize ((w.alloc (.cells #[.int .i64 0, .int .i64 0] 201)).alloc (.cells #[.int .i64 x, .int .i64 y] 201)).drew = W at R X BB ⊢
  obtain ⟨q0, q1⟩ := cell_two R
  obtain ⟨f0, f1⟩ := froz_two R
  obtain ⟨y0, y1⟩ := cell_two X
  go_region_with (go_at_call 207
                  refine (twoOk_any x y _).mono ?_
                  rintro e w' ⟨rfl, hb⟩
                  replace R := row_keep hb R
                  replace X := row_keep hb X
                  replace BB := BB.trans (hb.mono BB.size)
                  clear q0 q1 hb y0 y1 f0 f1
                  obtain ⟨q0, q1⟩ := cell_two R
                  obtain ⟨f0, f1⟩ := froz_two R
                  obtain ⟨y0, y1⟩ := cell_two X)
  all_goals
    go_wp2
    refine bodyPost_ret (v := .tuple #[.agg #[.int .i64 x, .int .i64 y], .bool (okW x && okW y)]) (by simp [results, Tryz.results189, go_sem, q0, q1]) rfl ⟨rfl, ?_⟩
    exact (BB.setCell (Nat.le_refl _) _).setCell (Nat.le_refl _) _
def isL : List Int → Bool
  | [x, y] => okW x && okW y
  | _ => false
theorem isL_cases (xs : List Int) : isL xs = false ∨ ∃ x y, xs = [x, y] ∧ okW x = true ∧ okW y = true := by
  match xs with
  | [] => exact .inl rfl
  | [_] => exact .inl rfl
  | [x, y] =>
    cases h1 : okW x
    · exact .inl (by simp [isL, h1])
    · cases h2 : okW y
      · exact .inl (by simp [isL, h2])
      · exact .inr ⟨x, y, rfl, h1, h2⟩
  | _ :: _ :: _ :: _ => exact .inl rfl

theorem wordsOf_no (a : Option Addr) (xs : List Int) (cap : Nat) (w : World) (h : Reads w a xs) (hn : isL xs = false) :
    Calls Tryz.prog 189 #[.slice a xs.length cap] w fun e w' => ∃ x y : Int, e = .returned (.tuple #[.agg #[.int .i64 x, .int .i64 y], .bool false]) ∧ Below w.heap.size w w' := by
  match xs with
  | [x, y] =>
    refine (wordsOf_two a x y cap w h).mono ?_
    rintro e w' ⟨rfl, b⟩
    exact ⟨x, y, by simp only [isL] at hn; rw [hn], b⟩
  | [] => exact (wordsOf_not a 0 cap w (by simp)).mono fun e w' h => ⟨0, 0, h⟩
  | [_] => exact (wordsOf_not a 1 cap w (by simp)).mono fun e w' h => ⟨0, 0, h⟩
  | _ :: _ :: _ :: r => exact (wordsOf_not a (r.length + 1 + 1 + 1) cap w (by omega)).mono fun e w' h => ⟨0, 0, h⟩


theorem wordsOf_yes (a : Option Addr) (x y : Int) (cap : Nat) (w : World) (h : Reads w a [x, y]) (hx : okW x = true) (hy : okW y = true) :
    Calls Tryz.prog 189 #[.slice a 2 cap] w fun e w' => e = .returned (.tuple #[.agg #[.int .i64 x, .int .i64 y], .bool true]) ∧ Below w.heap.size w w' := by
  refine (wordsOf_two a x y cap w h).mono ?_
  rintro e w' ⟨rfl, b⟩
  exact ⟨by rw [hx, hy]; rfl, b⟩
end Go.Proofs.YthbclkpmgcfdnaaGreatDoor
/- The contracts of lines, of the program: what LineOk, WordAt, Put and Masked answer; lists are new memory. No condition. -/
namespace Go.Proofs.YthbclkpmgcfdnaaGreatDoor
open Go.ChangeShapes Go.WideShapes Go.ChangeAt Go.RowKit
def wordI (xs : List Int) (k : Int) : Int := if isL xs then (if betw k 0 1 then xs.getD k.toNat 0 else -1) else -1
def putL (xs : List Int) (k v : Int) : List Int := if isL xs then (if betw k 0 1 then (if okW v then xs.set k.toNat v else xs) else xs) else []
def putB (xs : List Int) (k v : Int) : Bool := isL xs && (betw k 0 1 && okW v)
theorem isL_yes {x y : Int} (hx : okW x = true) (hy : okW y = true) : isL [x, y] = true := by simp [isL, hx, hy]
theorem betw_two {k : Int} (h : betw k 0 1 = true) : k = 0 ∨ k = 1 := by simp [betw] at h; omega
set_option maxHeartbeats 400000 in
theorem wordOk_any (k : Int) (w : World) : Calls Tryz.prog 190 #[.int .i64 k] w fun e w' => e = .returned (.bool (betw k 0 1)) ∧ w' = w := by
  go_enter Tryz.func190, Tryz.ntmps190
  go_wp2_with (go_at_call 104; refine (between_any _ _ _ _).mono ?_; rintro e w' ⟨rfl, rfl⟩)
  go_ret
  exact ⟨rfl, rfl⟩

set_option maxHeartbeats 400000 in
theorem valueOk_any (k : Int) (w : World) : Calls Tryz.prog 188 #[.int .i64 k] w fun e w' => e = .returned (.bool (okW k)) ∧ w' = w := by
  go_enter Tryz.func188, Tryz.ntmps188
  go_wp2_with (go_at_call 104; refine (between_any _ _ _ _).mono ?_; rintro e w' ⟨rfl, rfl⟩)
  go_ret
  exact ⟨rfl, rfl⟩


set_option maxHeartbeats 400000 in
theorem implLineOk_any (a : Option Addr) (xs : List Int) (cap : Nat) (w : World) (h : Reads w a xs) :
    Calls Tryz.prog 177 #[.slice a xs.length cap] w fun e w' => e = .returned (.bool (isL xs)) ∧ Below w.heap.size w w' := by
  rcases isL_cases xs with hn | ⟨x, y, rfl, hx, hy⟩
  · go_enter Tryz.func177, Tryz.ntmps177
    go_wp2_with fail
    refine (wordsOf_no _ xs _ _ h hn).mono ?_
    rintro e w1 ⟨x, y, rfl, b1⟩
    go_wp2
    go_ret
    exact ⟨by rw [hn]; rfl, b1.alloc b1.size _⟩
  · have hh := isL_yes hx hy
    go_enter Tryz.func177, Tryz.ntmps177
    go_wp2_with fail
    refine (wordsOf_yes _ x y _ _ h hx hy).mono ?_
    rintro e w1 ⟨rfl, b1⟩
    go_wp2
    go_ret
    exact ⟨by rw [hh]; rfl, b1.alloc b1.size _⟩

set_option maxHeartbeats 400000 in
theorem implWordAt_any (a : Option Addr) (xs : List Int) (cap : Nat) (k : Int) (w : World) (h : Reads w a xs) :
    Calls Tryz.prog 157 #[.slice a xs.length cap, .int .i64 k] w fun e w' => e = .returned (.int .i64 (wordI xs k)) ∧ Below w.heap.size w w' := by
  rcases isL_cases xs with hn | ⟨x, y, rfl, hx, hy⟩
  · have H : Hid (wordI xs k = -1) := by unfold Hid wordI; simp [hn]
    go_enter Tryz.func157, Tryz.ntmps157
    go_wp2_with fail
    refine (wordsOf_no _ xs _ _ h hn).mono ?_
    rintro e w1 ⟨x, y, rfl, b1⟩
    go_wp2
    go_ret
    exact ⟨ret_int H.out.symm, b1.alloc b1.size _⟩
  · have hh := isL_yes hx hy
    cases hk : betw k 0 1
    · have H : Hid (wordI [x, y] k = -1) := by unfold Hid wordI; simp [hk]
      go_enter Tryz.func157, Tryz.ntmps157
      go_wp2_with fail
      refine (wordsOf_yes _ x y _ _ h hx hy).mono ?_
      rintro e w1 ⟨rfl, b1⟩
      go_wp2_with (go_at_call 190; refine (wordOk_any _ _).mono ?_; rintro e w' ⟨rfl, rfl⟩)
      go_ret
      exact ⟨ret_int H.out.symm, b1.alloc b1.size _⟩
    · rcases betw_two hk with rfl | rfl
      all_goals
        go_enter Tryz.func157, Tryz.ntmps157
        go_wp2_with fail
        refine (wordsOf_yes _ x y _ _ h hx hy).mono ?_
        rintro e w1 ⟨rfl, b1⟩
        go_wp2_with (go_at_call 190; refine (wordOk_any _ _).mono ?_; rintro e w' ⟨rfl, rfl⟩)
        go_ret
        exact ⟨ret_int (by simp [wordI, hh, betw]), b1.alloc b1.size _⟩
end Go.Proofs.YthbclkpmgcfdnaaGreatDoor
/- Small laws on blocks and cells that every struct wants. No program here. -/
namespace Go.Proofs.YthbclkpmgcfdnaaGreatDoor
open Go.ChangeShapes Go.WideShapes Go.ChangeAt Go.RowKit
set_option linter.unusedVariables false
theorem box_below (w : World) (o : Obj) : Below w.heap.size w (w.alloc o) := (Below.refl _ w).alloc (Nat.le_refl _) o
theorem heap_at (w : World) (o : Obj) : (w.alloc o).heap[w.heap.size]? = some o := heap_alloc_new w o
theorem heap_on {w : World} {k : Nat} {x : Obj} (o : Obj) (h : w.heap[k]? = some x) : (w.alloc o).heap[k]? = some x := (Below.heap_alloc w o k (Array.getElem?_eq_some_iff.1 h).1).trans h
theorem be_drewN {B : Nat} {a w : World} (h : Below B a w) (n : Nat) : Below B a (w.drewN n) := ⟨h.os, h.tape, h.output, h.size, h.block⟩
theorem cell_keep {w w' : World} {D b o : Nat} {u : Value} (hb : Below D w w') (h : w.cell? ⟨b, o, none⟩ = some u) (hl : b < D) : w'.cell? ⟨b, o, none⟩ = some u :=
  (World.cell?_of_block (w := w) (a := ⟨b, o, none⟩) (hb.block b hl)).trans h
theorem cell_lt {w : World} {b o : Nat} {u : Value} (h : w.cell? ⟨b, o, none⟩ = some u) : b < w.heap.size := World.block_lt_of_cell? w _ h
theorem own_setC {α : Type} {R : Rep α} {w : World} {S : Foot} {cs : List Value} {x : α} {g o : Nat} {v : Value} (h : R.own w S cs x) (hg : ¬ S g) : R.own (w.setCell ⟨g, o, none⟩ v) S cs x :=
  R.own_keep h fun k hk _ => heap_setCell_other w ⟨g, o, none⟩ k v (fun e => hg (by have e' : k = g := e; rw [← e']; exact hk))
theorem below_setC {w w' : World} {B g o : Nat} {v : Value} (h : Below B w w') (hg : B ≤ g) : Below B w (w'.setCell ⟨g, o, none⟩ v) := h.setCell (p := ⟨g, o, none⟩) hg v
theorem heap_setC {w : World} {g k o : Nat} {v : Value} {x : Obj} (h : w.heap[k]? = some x) (hne : k ≠ g) : (w.setCell ⟨g, o, none⟩ v).heap[k]? = some x := (heap_setCell_other w ⟨g, o, none⟩ k v hne).trans h
theorem run_make_wide {P : Program} (t e : TypeId) (z : Value) (size bytes : Nat) (ht : P.underlying t = some (.slice e)) (hinfo : (P.info? e).map (fun i => (i.zero, i.size, i.bytes)) = some (some z, size, bytes))
    (n : Nat) (hbytes : bytes * n ≤ 281474976710656) (h63 : n ≤ 9223372036854775807) (w : World) :
    (Instr.makeSlice t (.int .i64 (n : Int)) (.int .i64 (n : Int))).run P w = .ok (.slice (some ⟨w.heap.size, 0, none⟩) n n) (w.alloc (.cells (madeCells z.cells (n * size)) e)) := by
  obtain ⟨i, hi, hzz⟩ := Option.map_eq_some_iff.1 hinfo
  simp only [Prod.mk.injEq] at hzz
  obtain ⟨hz, hs, hb⟩ := hzz
  have h2 : (i.bytes : Int) * (n : Int) ≤ 281474976710656 := by rw [hb, ← Int.natCast_mul]; omega
  have := run_make (P := P) w t e i z ht hi hz .i64 .i64 (n : Int) (n : Int) (by omega) (Int.le_refl _) h2 (by omega)
  simpa [hs] using this
theorem sumbk_ge {α : Type} (M : Mk α) (xs : List α) {x : α} {k : Nat} (hx : xs[k]? = some x) : M.bk x ≤ sumbk M xs := by
  have := sumbk_get (M := M) hx
  omega
theorem arr_of {cs : Array Value} {l : List Value} (h : cs.toList = l) : cs = l.toArray := by rw [← h]
theorem bl_drewN {B : Nat} {a w : World} (h : Below B a w) (n : Nat) : Below B a (w.drewN n) := ⟨h.os, h.tape, h.output, h.size, h.block⟩
end Go.Proofs.YthbclkpmgcfdnaaGreatDoor
/- A row that is owned among others, appended to, of any make. No program here. -/
namespace Go.Proofs.YthbclkpmgcfdnaaGreatDoor
open Go.ChangeShapes Go.WideShapes Go.ChangeAt Go.RowKit
set_option linter.unusedVariables false
/-- What lies in a world, of a foot. -/
def Old (w : World) (S : Foot) : Foot := fun k => S k ∧ k < w.heap.size
theorem own_old {α : Type} {R : Rep α} {w : World} {S : Foot} {cs : List Value} {x : α} (h : R.own w S cs x) : R.own w (Old w S) cs x :=
  R.own_mono (R.own_tight h) fun k hk => ⟨hk.1, by obtain ⟨_, cur, t, _, hh⟩ := hk; exact (Array.getElem?_eq_some_iff.1 hh).1⟩
theorem old_sub {w : World} {S : Foot} : Sub (Old w S) S := fun _ h => h.1
theorem own_box {α : Type} {R : Rep α} {w : World} {S : Foot} {cs : List Value} {x : α} (o : Obj) (h : R.own w S cs x) : R.own (w.alloc o) S cs x := R.own_keep h fun k _ hl => Below.heap_alloc w o k hl
section
variable {α : Type}
theorem appR_any {e : TypeId} {R : Rep α} {S : Foot} {w w1 w2 : World} {o : Obj} {v v' : Value} {xs : List α} {c : List Value} {x : α} (hty : e ∉ R.tys) (h : (slR e R).own w S [v] xs) (hm : MadeR R w w1 c x)
    (happ : ∀ rows, w.ownsRow 0 e R.size v xs.length rows → w2.ownsRow 0 e R.size v' (xs.length + 1) (rows ++ c)) (hg : (w1.alloc o).grownBy w2 v.ownBlock) (hb : v'.ownBlock = v.ownBlock ∨ ∃ k, v'.ownBlock = some k ∧ w.heap.size ≤ k) :
    (slR e R).own w2 (fun k => Old w S k ∨ w.heap.size ≤ k) [v'] (xs ++ [x]) ∧ Chg (Old w S) w w2 := by
  obtain ⟨v1, rows, S', hv, hr, hgg, hs, hl⟩ := own_old h
  simp only [List.cons.injEq, and_true] at hv
  subst hv
  have hr2 := happ rows hr
  have s1 := hm.2.size
  have s2 : w1.heap.size + 1 ≤ w2.heap.size := by have := hg.size; simpa using this
  have lt := lown_tight hl
  have ot := R.own_tight hm.1
  have keepw : ∀ k, k < w1.heap.size → v.ownBlock ≠ some k → w2.heap[k]? = w1.heap[k]? := fun k hk hne => by
    rw [hg.block k (by simp; omega) (fun e => hne e.symm), Below.heap_alloc w1 o k hk]
  have L2 : lown R w2 (fun k => S' k ∧ ∃ cur t, t ∈ R.tys ∧ w.heap[k]? = some (.cells cur t (0, 0))) rows xs := lown_keep lt fun k hk hlk => by
    rw [keepw k (by omega) (fun e => (hgg k e).2 hk.1), hm.2.block k hlk]
  have O2 : R.own w2 (fun k => rng w.heap.size w1.heap.size k ∧ ∃ cur t, t ∈ R.tys ∧ w1.heap[k]? = some (.cells cur t (0, 0))) c x := R.own_keep ot fun k hk hlk =>
    keepw k hlk (fun e => by have := (hgg k e).1.2; have := hk.1.1; omega)
  refine ⟨⟨v', rows ++ c, (fun k => (S' k ∧ ∃ cur t, t ∈ R.tys ∧ w.heap[k]? = some (.cells cur t (0, 0))) ∨ (rng w.heap.size w1.heap.size k ∧ ∃ cur t, t ∈ R.tys ∧ w1.heap[k]? = some (.cells cur t (0, 0)))), rfl, by rw [List.length_append]; exact hr2, fun g hg' => ?_, ?_, lown_push L2 O2 ?_ (fun k h => .inl h) (fun k h => .inr h)⟩, ?_⟩
  · obtain ⟨cur, hcur⟩ := row_block hr2 hg'
    refine ⟨?_, ?_⟩
    · rcases hb with hb | ⟨k, hk, hk2⟩
      · rw [hb] at hg'
        exact .inl (hgg g hg').1
      · rw [hg'] at hk
        cases hk
        exact .inr hk2
    · rintro (⟨h1, cur', t, ht, hh⟩ | ⟨h1, cur', t, ht, hh⟩)
      · have hlk : g < w.heap.size := (Array.getElem?_eq_some_iff.1 hh).1
        have : w2.heap[g]? = w.heap[g]? := by rw [keepw g (by omega) (fun e => (hgg g e).2 h1), hm.2.block g hlk]
        rw [hcur, hh] at this
        simp at this
        rw [this.2] at hty
        exact hty ht
      · have hlk : g < w1.heap.size := (Array.getElem?_eq_some_iff.1 hh).1
        have : w2.heap[g]? = w1.heap[g]? := keepw g hlk (fun e => by have := (hgg g e).1.2; have := h1.1; omega)
        rw [hcur, hh] at this
        simp at this
        rw [this.2] at hty
        exact hty ht
  · rintro k (⟨h1, _⟩ | ⟨h1, _⟩)
    · exact .inl (hs k h1)
    · exact .inr h1.1
  · rintro k ⟨h1, _⟩ ⟨h2, _⟩
    have := (hs k h1).2
    have := h2.1
    omega
  · have e1 : w2.os = w.os := hg.os.trans hm.2.os
    have e2 : w2.tape = w.tape := hg.tape.trans hm.2.tape
    have e3 : w2.output = w.output := hg.output.trans hm.2.output
    refine ⟨e1, e2, e3, by omega, fun k hk hn => ?_⟩
    rw [keepw k (by omega) (fun e => hn (hgg k e).1), hm.2.block k hk]
end
theorem rows_unique {w : World} {base base' e size n : Nat} {v : Value} {xs ys : List Value} (h : w.ownsRow base e size v n xs) (k : w.ownsRow base' e size v n ys) : xs = ys := by
  rcases h.2 with ⟨rfl, rfl⟩ | ⟨g, cap, cur, rfl, _, hg, _, _, _, ht⟩
  · have h1 := h.1
    have k1 := k.1
    rw [List.eq_nil_of_length_eq_zero (l := xs) (by rw [h1]; omega), List.eq_nil_of_length_eq_zero (l := ys) (by rw [k1]; omega)]
  · rcases k.2 with ⟨h', _⟩ | ⟨g', cap', cur', h', _, hg', _, _, _, ht'⟩
    · simp at h'
    · simp only [Value.slice.injEq, Option.some.injEq, Addr.mk.injEq, and_true, true_and] at h'
      obtain ⟨rfl, rfl⟩ := h'
      rw [hg] at hg'
      simp only [Option.some.injEq, Obj.cells.injEq] at hg'
      rw [← ht, ← ht', hg'.1]
theorem owns_shape {w : World} {base e size n : Nat} {v : Value} {xs : List Value} (h : w.ownsRow base e size v (n + 1) xs) : ∃ g cap, v = .slice (some ⟨g, 0, none⟩) (n + 1) cap := by
  rcases h.2 with ⟨_, h0⟩ | ⟨g, cap, cur, rfl, _⟩
  · omega
  · exact ⟨g, cap, rfl⟩
section
variable {α : Type}
theorem app_made {e : TypeId} {R : Rep α} {w0 w w1 w2 : World} {o : Obj} {v v' : Value} {xs : List α} {c : List Value} {x : α} {rows0 : List Value} (hty : e ∉ R.tys) (h : MadeR (slR e R) w0 w [v] xs) (hm : MadeR R w w1 c x)
    (hr : w.ownsRow w0.heap.size e R.size v xs.length rows0) (hown' : w2.ownsRow w0.heap.size e R.size v' (xs.length + 1) (rows0 ++ c)) (hg : (w1.alloc o).grownBy w2 v.ownBlock) : MadeR (slR e R) w0 w2 [v'] (xs ++ [x]) :=
  appR_step hty h hm (fun rows hr' => by rw [rows_unique hr' hr]; exact hown') hg
theorem made_none {e : TypeId} {R : Rep α} (w : World) : MadeR (slR e R) w (w.alloc (.cells #[] e)) [.slice (some ⟨w.heap.size, 0, none⟩) 0 0] [] := by
  refine ⟨⟨_, [], fun _ => False, rfl, World.ownsRow_lit (base := 0) (e := e) (size := R.size) w #[] 0 (Nat.zero_le _) (Nat.zero_le _) (by simp), fun g hg => ?_, fun _ h => h.elim, rfl⟩, box_below w _⟩
  simp [Value.ownBlock] at hg
  subst hg
  exact ⟨⟨Nat.le_refl _, by simp⟩, fun h => h⟩
end
theorem cells_news (w : World) (cs : List Value) (t : TypeId) : ∀ j u, cs[j]? = some u → (w.alloc (.cells cs.toArray t)).cell? ((⟨w.heap.size, 0, none⟩ : Addr).add j) = some u := by
  intro j u hu
  have X := heap_at w (.cells cs.toArray t)
  rw [show (⟨w.heap.size, 0, none⟩ : Addr).add j = ⟨w.heap.size, j, none⟩ from by simp [Addr.add] <;> omega, cell_of_row _ _ j _ _ (0, 0) X]
  simpa using hu
end Go.Proofs.YthbclkpmgcfdnaaGreatDoor
/- Lists of numbers, copied, by the specification. Conditions: lists of at most 2^20 numbers. -/
namespace Go.Proofs.YthbclkpmgcfdnaaGreatDoor
open Go.ChangeShapes Go.WideShapes Go.ChangeAt Go.RowKit
set_option linter.unusedVariables false
theorem run_append_zero {P : Program} {w : World} (base : Nat) (t ty e : TypeId) (i : TypeInfo) (size : Nat) (ht : P.underlying t = some (.slice e)) (hi : P.info? e = some i) (c : Nat)
    (v : Value) (n : Nat) (xs : List Value) (hown : w.ownsRow base e size v n xs) : (Builtin.append_ #[t, t] ty #[v, .slice none 0 c]).run P w = .ok v w := by
  rcases hown.2 with ⟨rfl, rfl⟩ | ⟨g, cap, cur, rfl, _, _, hnc, _⟩
  · simp [Builtin.append_, run_underlying ht, sizeOf, typeInfo, hi, Builtin.lenOf, Builtin.firstCells]
  · simp [Builtin.append_, run_underlying ht, sizeOf, typeInfo, hi, Builtin.lenOf, Builtin.firstCells, hnc, storeCells]
theorem wpList_append_zero {P : Program} {w : World} {ops : Array Oper} {rest : List Oper} {o : Oper} {a : Act} {Q : Exit → Act → World → Prop} (hgd : o.guard = none) (s x : Operand) (t : TypeId)
    (ho : o.op = .call { callee := .builtin .append, args := #[s, x], argTypes := #[t, t] })
    (base : Nat) (e : TypeId) (i : TypeInfo) (size : Nat) (ht : P.underlying t = some (.slice e)) (hi : P.info? e = some i) (c : Nat)
    (v : Value) (n : Nat) (xs : List Value) (hs : a.eval s = v) (hown : w.ownsRow base e size v n xs) (hx : a.eval x = .slice none 0 c)
    (h : wpList P ops Q rest (a.put o.dst v) w) : wpList P ops Q (o :: rest) a w := by
  refine wpList_plain hgd fun K hK => ?_
  have hrun := run_append_zero (P := P) (w := w) base t o.type e i size ht hi c v n xs hown
  unfold Oper.wp
  simp [execOp, ho, resolve, invoke, builtin, hs, hx, hrun, Result.andThen]
  exact hK _ _ h
theorem cell_kp3 (w : World) (o o' o'' : Obj) {b k : Nat} {u : Value} (h : w.cell? ⟨b, k, none⟩ = some u) : (((w.alloc o).alloc o').alloc o'').cell? ⟨b, k, none⟩ = some u := by
  have hl := World.block_lt_of_cell? w _ h
  simp only at hl
  rw [World.cell?_alloc_past _ _ _ (by simp; omega), World.cell?_alloc_past _ _ _ (by simp; omega), World.cell?_alloc_past _ _ _ hl, h]
theorem made_nothing (w : World) : MadeR intsR w (w.alloc (.cells #[] 2)) [.slice (some ⟨w.heap.size, 0, none⟩) 0 0] [] := by
  refine ⟨⟨_, [], fun _ => False, rfl, World.ownsRow_lit (base := 0) (e := 2) (size := 1) w #[] 0 (Nat.zero_le _) (Nat.zero_le _) rfl, fun g hg => ?_, fun _ h => h.elim, rfl⟩, box_below w _⟩
  simp [Value.ownBlock] at hg
  subst hg
  exact ⟨⟨Nat.le_refl _, by simp⟩, fun h => h⟩

set_option maxHeartbeats 1000000 in
theorem l1Copy_nil (cap : Nat) (w : World) : Calls Tryz.prog 123 #[.slice none 0 cap] w fun e w' => ∃ v, e = .returned v ∧ MadeR intsR w w' [v] [] := by
  obtain ⟨i0, hi, hz0, hz1, hz2⟩ := info_parts Tryz.infoI
  have hown : (w.alloc (.cells #[] 2)).ownsRow w.heap.size 2 1 (.slice (some ⟨w.heap.size, 0, none⟩) 0 0) 0 [] := World.ownsRow_lit _ #[] 0 (Nat.le_refl _) (Nat.zero_le _) rfl
  go_enter Tryz.func123, Tryz.ntmps123
  go_wp2_with (at_builtin; refine wpList_append_zero rfl _ _ 25 rfl w.heap.size 2 i0 1 Tryz.underlying25 hi cap _ _ _ rfl hown rfl ?_)
  go_ret
  exact ⟨_, rfl, made_nothing w⟩
theorem l1Copy_rep (a : Option Addr) (xs : List Int) (cap : Nat) (w : World) (h : SlRd intR w a xs) (hm : xs.length ≤ 1048576) :
    Calls Tryz.prog 123 #[.slice a xs.length cap] w fun e w' => ∃ v, e = .returned v ∧ MadeR intsR w w' [v] xs := by
  cases a with
  | some ad => exact (l1Copy_any ad xs cap w (reads_of h) hm).mono fun e w' ⟨v, h1, h2⟩ => ⟨v, h1, madeR_ints h2 (in64_of h)⟩
  | none =>
    rcases h with rfl | ⟨b, off, rows, ha, _⟩
    · exact l1Copy_nil cap w
    · cases ha
end Go.Proofs.YthbclkpmgcfdnaaGreatDoor
/- Descs (numbers and one list) as they lie in memory; the contracts of the laws' own helpers over one and over lists of them: how great, a copy, alike. Conditions: lengths that a machine can hold. -/
namespace Go.Proofs.YthbclkpmgcfdnaaGreatDoor
open Go.ChangeShapes Go.WideShapes Go.ChangeAt Go.RowKit
set_option linter.unusedVariables false
abbrev DescD := Bool × Int × Int × List Int
abbrev descR : Rep DescD := prodR boolR (prodR intR (prodR intR intsR))
theorem own_desc {w : World} {S : Foot} {f1 f2 : Int} {f0 : Bool} {d : List Int} {v : Value} (i1 : In64 f1) (i2 : In64 f2) (h : intsR.own w S [v] d) : descR.own w S [.bool f0, .int .i64 f1, .int .i64 f2, v] (f0, f1, f2, d) :=
  ⟨[_], [_, _, _], fun _ => False, S, rfl, rfl, ⟨[_], [_, _], fun _ => False, S, rfl, ⟨rfl, i1⟩, ⟨[_], [_], fun _ => False, S, rfl, ⟨rfl, i2⟩, h, fun _ h => h.elim, Sub.refl _, fun _ h _ => h⟩, fun _ h => h.elim, Sub.refl _, fun _ h _ => h⟩, fun _ h => h.elim, Sub.refl _, fun _ h _ => h⟩
theorem cells_4 {w : World} {g : Nat} {x0 x1 x2 x3 : Value} {t : TypeId} (h : w.heap[g]? = some (.cells #[x0, x1, x2, x3] t (0, 0))) :
    w.cell? ⟨g, 0, none⟩ = some x0 ∧ w.cell? ⟨g, 1, none⟩ = some x1 ∧ w.cell? ⟨g, 2, none⟩ = some x2 ∧ w.cell? ⟨g, 3, none⟩ = some x3 :=
  ⟨by rw [cell_of_row w g 0 _ t (0, 0) h]; rfl, by rw [cell_of_row w g 1 _ t (0, 0) h]; rfl, by rw [cell_of_row w g 2 _ t (0, 0) h]; rfl, by rw [cell_of_row w g 3 _ t (0, 0) h]; rfl⟩
theorem froz_4 {w : World} {g : Nat} {cs : Array Value} {t : TypeId} (h : w.heap[g]? = some (.cells cs t (0, 0))) : w.frozen? ⟨g, 0, none⟩ = false ∧ w.frozen? ⟨g, 1, none⟩ = false ∧ w.frozen? ⟨g, 2, none⟩ = false ∧ w.frozen? ⟨g, 3, none⟩ = false :=
  ⟨frozen_of_row w g 0 _ t h, frozen_of_row w g 1 _ t h, frozen_of_row w g 2 _ t h, frozen_of_row w g 3 _ t h⟩





end Go.Proofs.YthbclkpmgcfdnaaGreatDoor
/- The contracts of the draws of a line, as data that is owned: some list of at most three numbers is drawn, in new memory, and nothing that was there turns but the cursor. Conditions: the bytes are at most 2^61. -/
namespace Go.Proofs.YthbclkpmgcfdnaaGreatDoor
open Go.ChangeShapes Go.WideShapes Go.ChangeAt Go.RowKit
set_option linter.unusedVariables false
/-- Something is drawn: new memory alone, but for the cursor. -/
structure DrewR {α : Type} (R : Rep α) (B g : Nat) (w w' : World) (cs : List Value) (x : α) : Prop where
  own : R.own w' (rng w.heap.size w'.heap.size) cs x
  cur : Cur B w' g
  chg : Chg (fun b => b = g) w w'
theorem small64 {x : Int} (h0 : -1000000 ≤ x) (h1 : x ≤ 1000000) : In64 x := by constructor <;> omega
theorem cur_chg {B g : Nat} {S : Foot} {w w' : World} (h : Cur B w g) (hc : Chg S w w') (hS : ∀ k, S k → B ≤ k ∧ k ≠ g) (hB : B ≤ w.heap.size) : Cur B w' g := by
  obtain ⟨hBg, a, len, cap, zs, i, hh, hi, hblk, hby⟩ := h
  refine ⟨hBg, a, len, cap, zs, i, hh, hi, (hc.block g (Array.getElem?_eq_some_iff.1 hblk).1 (fun hx => (hS g hx).2 rfl)).trans hblk, hby.1, ?_⟩
  rcases hby.2 with h | ⟨b, off, ha, hb, hcc⟩
  · exact .inl h
  · refine .inr ⟨b, off, ha, hb, fun j hj => ?_⟩
    exact (World.cell?_of_block (w := w) (a := ⟨b, off + j, none⟩) (hc.block b (by omega) (fun hx => by have := (hS b hx).1; omega))).trans (hcc j hj)
theorem lit_cellP {w w2 : World} {g n : Nat} {cs : Array Value} {t : TypeId} (hg : (w.alloc (.cells cs t)).grownBy w2 (some g)) (hgs : g < w.heap.size) (x : Int) (h0 : 0 ≤ x) (h1 : x < n)
    (hcs : ∀ j, j < n → ∃ v, cs[j]? = some (.int .i64 v) ∧ -1000000 ≤ v ∧ v ≤ 1000000) : ∃ v, w2.cell? ⟨w.heap.size, x.toNat, none⟩ = some (.int .i64 v) ∧ In64 v := by
  obtain ⟨v, hv, b1, b2⟩ := hcs x.toNat (by omega)
  refine ⟨v, ?_, small64 b1 b2⟩
  refine hg.cell ?_ (by simp; omega)
  rw [cell_of_row _ _ _ _ _ (0, 0) (heap_alloc_new w _)]
  exact hv

set_option maxHeartbeats 1000000 in
theorem l3DrawLine_rep (B g : Nat) (w : World) (hcur : Cur B w g) :
    Calls Tryz.prog 75 #[.pointer (some ⟨g, 0, none⟩)] w fun e w' => ∃ gl x y, e = .returned (.slice (some ⟨gl, 0, none⟩) 2 2) ∧ w.heap.size ≤ gl ∧ (∀ z ∈ [x, y], In64 z) ∧ OwnI w.heap.size w' gl 2 [x, y] ∧ Cur B w' g ∧ w.grownBy w' (some g) := by
  go_enter Tryz.func75, Tryz.ntmps75
  go_wp2_with fail
  refine (l1Below_small B g 30 _ hcur (by omega) (by omega)).mono ?_
  rintro e w1 ⟨x, rfl, hx0, hx1, hc1, hg1⟩
  go_wp2_with fail
  refine (l1Below_small B g 30 _ hc1 (by omega) (by omega)).mono ?_
  rintro e w2 ⟨y, rfl, hy0, hy1, hc2, hg2⟩
  go_wp2
  go_ret
  have G := grown_trans hg1 hg2
  have O := owni_lit w2 #[.int .i64 x, .int .i64 y] [x, y] rfl (by unfold maxLen; simp)
  refine ⟨w2.heap.size, x, y, rfl, G.size, ?_, owni_mono O G.size, cur_alloc hc2 _, grown_trans G (World.grownBy_alloc _ _ _)⟩
  intro z hz
  simp at hz
  rcases hz with rfl | rfl
  · exact small64 (by omega) (by omega)
  · exact small64 (by omega) (by omega)

set_option maxHeartbeats 1000000 in
theorem l3DrawAny_rep (B g : Nat) (w : World) (hcur : Cur B w g) :
    Calls Tryz.prog 138 #[.pointer (some ⟨g, 0, none⟩)] w fun e w' => ∃ v xs, e = .returned v ∧ xs.length ≤ 3 ∧ (∀ z ∈ xs, In64 z) ∧ Drew B g w w' v xs := by
  have hgw := cur_lt hcur
  have z64 : In64 0 := small64 (by omega) (by omega)
  go_enter Tryz.func138, Tryz.ntmps138
  go_wp2_with fail
  refine (l3DrawLine_rep B g _ hcur).mono ?_
  rintro e w1 ⟨gl, x, y, rfl, l1, hxy, o1, hc1, hg1⟩
  have hX : Hid (In64 x ∧ In64 y) := ⟨hxy x (by simp), hxy y (by simp)⟩
  have HZ : Hid (In64 0) := z64
  clear hxy z64
  have hne : gl ≠ g := by omega
  go_wp2_with fail
  refine (l1Once_small B g 8 _ hc1 (by omega) (by omega)).mono ?_
  rintro e w2 ⟨b, rfl, hc2, hg2⟩
  replace o1 := owni_grown o1 hg2 hne
  replace hg1 := grown_trans hg1 hg2
  clear hg2 hc1
  cases b
  · go_wp2
    go_ret
    exact ⟨_, [x, y], rfl, by simp, by simp [hX.out.1, hX.out.2], gl, 2, rfl, l1, o1, hc2, hg1⟩
  · go_wp2_with fail
    refine (l1Below_small B g 3 _ hc2 (by omega) (by omega)).mono ?_
    rintro e w3 ⟨k, rfl, hk0, hk1, hc3, hg3⟩
    replace o1 := owni_grown o1 hg3 hne
    replace hg1 := grown_trans hg1 hg3
    clear hg3 hc2
    obtain rfl | rfl | rfl : k = 0 ∨ k = 1 ∨ k = 2 := by omega
    · have hgs := cur_lt hc3
      go_wp2_with fail
      refine (l1Below_small B g _ _ (cur_alloc hc3 _) (by omega) (by omega)).mono ?_
      rintro e w4 ⟨k, rfl, hk0, hk1, hc4, hg4⟩
      obtain ⟨v, hv, hv64⟩ := lit_cellP (n := 3) hg4 hgs k hk0 hk1 (by
        intro j hj
        obtain rfl | rfl | rfl : j = 0 ∨ j = 1 ∨ j = 2 := by omega
        all_goals exact ⟨_, rfl, by decide, by decide⟩)
      have HV : Hid (In64 v) := hv64
      have o4 : OwnI w.heap.size w4 gl 2 [x, y] := owni_grown (owni_alloc o1 _) hg4 hne
      have G4 := grown_trans (grown_trans hg1 (World.grownBy_alloc _ _ _)) hg4
      have c0 : w4.cell? ⟨gl, 0, none⟩ = some (.int .i64 x) := by rw [World.ownsRow.cellAt o4 0 (by simp)]; rfl
      have f0 : w4.frozen? ⟨gl, 0, none⟩ = false := World.ownsRow.frozenAt o4 0
      have S := World.ownsRow.stored o4 0 (.int .i64 v)
      have HD : Hid (OwnI w.heap.size (w4.setCell ⟨gl, 0, none⟩ (.int .i64 v)) gl 2 [v, y] ∧ Cur B (w4.setCell ⟨gl, 0, none⟩ (.int .i64 v)) g ∧ w.grownBy (w4.setCell ⟨gl, 0, none⟩ (.int .i64 v)) (some g)) :=
        ⟨S.1, cur_grown hc4 S.2 (by have := hcur.1; omega) hne, grown_new G4 S.2 l1⟩
      clear S o4 G4 hc4 hg4 o1 hg1 hc3 hv64
      go_wp2
      go_ret
      exact ⟨_, [v, y], rfl, by simp, by simp [hX.out.2, HV.out], gl, 2, rfl, l1, HD.out.1, HD.out.2.1, HD.out.2.2⟩
    · go_wp2_with fail
      go_ret
      exact ⟨_, [x], rfl, by simp, by simp [hX.out.1], gl, 2, rfl, l1, owni_one o1, hc3, hg1⟩
    · obtain ⟨i0, hi, hz0, hz1, hz2⟩ := info_parts Tryz.infoI
      go_wp2_with (at_builtin; refine wpList_append_own _ rfl _ _ 25 rfl w.heap.size 2 i0 (.int .i64 0) 1 8 Tryz.underlying25 hi hz0 hz1 hz2 rfl (by decide) _ _ _ rfl (o1.alloc _) ⟨_, 0, none⟩ 1 1 [.int .i64 0] rfl rfl ?c1 ?c2 ?c3 ?c4 ?c5 ?_)
      case c1 =>
        intro j u hj
        match j, hj with
        | 0, hj => simp at hj; subst hj; simp [Addr.add]
      case c2 => intro u hu; simp at hu; subst hu; rfl
      case c3 => unfold maxLen; simp
      case c4 => simp
      case c5 => have := hg1.size; simp; omega
      · intro v' w4 hown hgr hnil
        have HD : Hid (∃ gn cn, v' = .slice (some ⟨gn, 0, none⟩) 3 cn ∧ w.heap.size ≤ gn ∧ OwnI w.heap.size w4 gn cn [x, y, 0] ∧ Cur B w4 g ∧ w.grownBy w4 (some g)) := by
          have hgr' : (w3.alloc (.cells #[.int .i64 0] 2)).grownBy w4 (some gl) := hgr
          rcases hown.2 with ⟨h', _⟩ | ⟨gn, cn, cur, rfl, hb, hh, rest⟩
          · exact absurd h' hnil
          · exact ⟨gn, cn, rfl, hb, hown, cur_grown (cur_alloc hc3 _) hgr' (by have := hcur.1; omega) (by omega), grown_new (grown_trans hg1 (World.grownBy_alloc _ _ _)) hgr' l1⟩
        clear hown hgr hnil
        go_wp2
        go_ret
        obtain ⟨gn, cn, rfl, h1, h2, h3, h4⟩ := HD.out
        exact ⟨_, [x, y, 0], rfl, by simp, by simp [hX.out.1, hX.out.2, HZ.out], gn, cn, rfl, h1, h2, h3, h4⟩
theorem drew_ints {B g : Nat} {w w' : World} {gl cap : Nat} {xs : List Int} (h64 : ∀ z ∈ xs, In64 z) (h1 : w.heap.size ≤ gl) (h2 : OwnI w.heap.size w' gl cap xs) (h3 : Cur B w' g) (h4 : w.grownBy w' (some g)) : DrewR intsR B g w w' [.slice (some ⟨gl, 0, none⟩) xs.length cap] xs :=
  ⟨own_of h2 ⟨h1, (World.ownsRow.lt h2 gl rfl).2⟩ h64, h3, chg_grown h4 rfl⟩
end Go.Proofs.YthbclkpmgcfdnaaGreatDoor
/- A struct that is being drawn, in a box, of any shape: fields set one by one, the cursor turned, in the end laid into the result. No program here. -/
namespace Go.Proofs.YthbclkpmgcfdnaaGreatDoor
open Go.ChangeShapes Go.WideShapes Go.ChangeAt Go.RowKit
set_option linter.unusedVariables false
variable {α : Type}
theorem chg_set {w : World} {g i : Nat} {v : Value} : Chg (fun b => b = g) w (w.setCell ⟨g, i, none⟩ v) := ⟨rfl, rfl, rfl, by simp, fun j _ hj => heap_setCell_other w ⟨g, i, none⟩ j v hj⟩
theorem chg_via {g rb : Nat} {w wr W : World} (h : Chg (fun b => b = g) w wr) (c : Chg (fun b => b = rb) wr W) (hl : w.heap.size ≤ rb) : Chg (fun b => b = g) w W :=
  ⟨c.os.trans h.os, c.tape.trans h.tape, c.output.trans h.output, Nat.le_trans h.size c.size, fun j hj hn => (c.block j (by have := h.size; omega) (by omega)).trans (h.block j hj hn)⟩
/-- A struct that is being drawn: it lies in the box mb; rb: the result's box. -/
structure DB (R : Rep α) (t : TypeId) (B g : Nat) (w wr : World) (rb mb : Nat) (z cs : List Value) (x : α) : Prop where
  box : wr.heap[mb]? = some (.cells cs.toArray t (0, 0))
  res : wr.heap[rb]? = some (.cells z.toArray t (0, 0))
  own : R.own wr (fun k => mb < k ∧ k < wr.heap.size) cs x
  cur : Cur B wr g
  chg : Chg (fun b => b = g) w wr
  lt : w.heap.size ≤ rb ∧ rb < mb ∧ mb < wr.heap.size ∧ g < w.heap.size ∧ B ≤ g
theorem db_step {R : Rep α} {t : TypeId} {B g rb mb : Nat} {w wr w' : World} {z cs : List Value} {x : α} (h : DB R t B g w wr rb mb z cs x) (hc : Chg (fun b => b = g) wr w') (hcur : Cur B w' g) : DB R t B g w w' rb mb z cs x := by
  obtain ⟨l1, l2, l3, l4, l5⟩ := h.lt
  have hs := hc.size
  exact ⟨(hc.block mb (by omega) (by omega)).trans h.box, (hc.block rb (by omega) (by omega)).trans h.res, R.own_mono (own_chg h.own hc (fun j hj e => by have := hj.1; omega)) (fun k hk => ⟨hk.1, by have := hk.2; omega⟩), hcur, h.chg.trans hc, l1, l2, by omega, l4, l5⟩
theorem db_grown {R : Rep α} {t : TypeId} {B g rb mb : Nat} {w wr w' : World} {z cs : List Value} {x : α} (h : DB R t B g w wr rb mb z cs x) (hg : wr.grownBy w' (some g)) (hcur : Cur B w' g) : DB R t B g w w' rb mb z cs x := db_step h (chg_grown hg rfl) hcur
theorem db_alloc {R : Rep α} {t : TypeId} {B g rb mb : Nat} {w wr : World} {z cs : List Value} {x : α} (h : DB R t B g w wr rb mb z cs x) (o : Obj) : DB R t B g w (wr.alloc o) rb mb z cs x := db_step h (chg_below (box_below wr o)) (cur_alloc h.cur o)
/-- One cell is set, and what lies in the box then reads as x'. -/
theorem db_put {R : Rep α} {t : TypeId} {B g rb mb i : Nat} {w wr : World} {z cs cs' : List Value} {x x' : α} {v : Value} (h : DB R t B g w wr rb mb z cs x) (hi : cs' = cs.set i v) (ho : R.own wr (fun k => mb < k ∧ k < wr.heap.size) cs' x') : DB R t B g w (wr.setCell ⟨mb, i, none⟩ v) rb mb z cs' x' := by
  obtain ⟨l1, l2, l3, l4, l5⟩ := h.lt
  have c1 : Chg (fun b => b = mb) wr (wr.setCell ⟨mb, i, none⟩ v) := chg_set
  have hb := heap_setCell_same wr mb i _ _ v h.box
  rw [List.setIfInBounds_toArray, ← hi] at hb
  exact ⟨hb, (c1.block rb (by omega) (by omega)).trans h.res, R.own_mono (own_chg ho c1 (fun j hj e => by have := hj.1; omega)) (fun k hk => ⟨hk.1, by have := hk.2; have := c1.size; omega⟩), cur_chg h.cur c1 (fun k hk => by omega) (by omega), chg_via h.chg c1 (by omega), l1, l2, by have := c1.size; omega, l4, l5⟩
theorem db_new {R : Rep α} {t : TypeId} {B g rb : Nat} {w wr : World} {z cs : List Value} {x : α} (hc : Chg (fun b => b = g) w wr) (hcur : Cur B wr g) (hres : wr.heap[rb]? = some (.cells z.toArray t (0, 0))) (ho : R.own (wr.alloc (.cells cs.toArray t)) (fun k => wr.heap.size < k ∧ k < wr.heap.size + 1) cs x) (h1 : w.heap.size ≤ rb) (h2 : rb < wr.heap.size) (h3 : g < w.heap.size) :
    DB R t B g w (wr.alloc (.cells cs.toArray t)) rb wr.heap.size z cs x :=
  ⟨heap_at wr _, heap_on _ hres, R.own_mono ho (fun k hk => ⟨hk.1, by have := hk.2; simp; omega⟩), cur_alloc hcur _, hc.trans (chg_below (box_below _ _)), h1, h2, by simp, h3, hcur.1⟩
/-- The box of what was drawn by another one: its own memory lies ahead of the box. -/
structure DC (R : Rep α) (t : TypeId) (B g : Nat) (w wr : World) (rb mb : Nat) (z cs : List Value) (x : α) : Prop where
  box : wr.heap[mb]? = some (.cells cs.toArray t (0, 0))
  res : wr.heap[rb]? = some (.cells z.toArray t (0, 0))
  own : R.own wr (fun k => rb < k ∧ k < wr.heap.size ∧ k ≠ mb) cs x
  cur : Cur B wr g
  chg : Chg (fun b => b = g) w wr
  lt : w.heap.size ≤ rb ∧ rb < mb ∧ mb < wr.heap.size ∧ g < w.heap.size ∧ B ≤ g
theorem dc_of {R : Rep α} {t : TypeId} {B g rb mb : Nat} {w wr : World} {z cs : List Value} {x : α} (h : DB R t B g w wr rb mb z cs x) : DC R t B g w wr rb mb z cs x :=
  ⟨h.box, h.res, R.own_mono h.own (fun k hk => ⟨by have := hk.1; have := h.lt; omega, hk.2, by have := hk.1; omega⟩), h.cur, h.chg, h.lt⟩
theorem dc_step {R : Rep α} {t : TypeId} {B g rb mb : Nat} {w wr w' : World} {z cs : List Value} {x : α} (h : DC R t B g w wr rb mb z cs x) (hc : Chg (fun b => b = g) wr w') (hcur : Cur B w' g) : DC R t B g w w' rb mb z cs x := by
  obtain ⟨l1, l2, l3, l4, l5⟩ := h.lt
  have hs := hc.size
  exact ⟨(hc.block mb (by omega) (by omega)).trans h.box, (hc.block rb (by omega) (by omega)).trans h.res, R.own_mono (own_chg h.own hc (fun j hj e => by have := hj.1; omega)) (fun k hk => ⟨hk.1, by have := hk.2; omega, hk.2.2⟩), hcur, h.chg.trans hc, l1, l2, by omega, l4, l5⟩
theorem dc_grown {R : Rep α} {t : TypeId} {B g rb mb : Nat} {w wr w' : World} {z cs : List Value} {x : α} (h : DC R t B g w wr rb mb z cs x) (hg : wr.grownBy w' (some g)) (hcur : Cur B w' g) : DC R t B g w w' rb mb z cs x := dc_step h (chg_grown hg rfl) hcur
theorem dc_alloc {R : Rep α} {t : TypeId} {B g rb mb : Nat} {w wr : World} {z cs : List Value} {x : α} (h : DC R t B g w wr rb mb z cs x) (o : Obj) : DC R t B g w (wr.alloc o) rb mb z cs x := dc_step h (chg_below (box_below wr o)) (cur_alloc h.cur o)
theorem dc_put {R : Rep α} {t : TypeId} {B g rb mb i : Nat} {w wr : World} {z cs cs' : List Value} {x x' : α} {v : Value} (h : DC R t B g w wr rb mb z cs x) (hi : cs' = cs.set i v) (ho : R.own wr (fun k => rb < k ∧ k < wr.heap.size ∧ k ≠ mb) cs' x') : DC R t B g w (wr.setCell ⟨mb, i, none⟩ v) rb mb z cs' x' := by
  obtain ⟨l1, l2, l3, l4, l5⟩ := h.lt
  have c1 : Chg (fun b => b = mb) wr (wr.setCell ⟨mb, i, none⟩ v) := chg_set
  have hb := heap_setCell_same wr mb i _ _ v h.box
  rw [List.setIfInBounds_toArray, ← hi] at hb
  exact ⟨hb, (c1.block rb (by omega) (by omega)).trans h.res, R.own_mono (own_chg ho c1 (fun j hj e => hj.2.2 e)) (fun k hk => ⟨hk.1, by have := hk.2; have := c1.size; omega, hk.2.2⟩), cur_chg h.cur c1 (fun k hk => by omega) (by omega), chg_via h.chg c1 (by omega), l1, l2, by have := c1.size; omega, l4, l5⟩
/-- The box of what was drawn: drawn ahead of it. -/
theorem dc_new {R : Rep α} {t : TypeId} {B g rb : Nat} {w w0 wr : World} {z cs : List Value} {x : α} (hd : DrewR R B g w0 wr cs x) (hc : Chg (fun b => b = g) w w0) (hres : w0.heap[rb]? = some (.cells z.toArray t (0, 0))) (h1 : w.heap.size ≤ rb) (h3 : g < w.heap.size) :
    DC R t B g w (wr.alloc (.cells cs.toArray t)) rb wr.heap.size z cs x := by
  have h2 := (Array.getElem?_eq_some_iff.1 hres).1
  have hs := hd.chg.size
  refine ⟨heap_at wr _, heap_on _ ((hd.chg.block rb h2 (by omega)).trans hres), ?_, cur_alloc hd.cur _, (hc.trans hd.chg).trans (chg_below (box_below _ _)), h1, by omega, by simp, h3, hd.cur.1⟩
  refine R.own_mono (R.own_keep hd.own (fun k _ hl => Below.heap_alloc wr _ k hl)) (fun k hk => ⟨by have := hk.1; omega, by have := hk.2; simp; omega, by have := hk.2; omega⟩)
theorem dc_done {R : Rep α} {t : TypeId} {B g rb mb : Nat} {w wr W : World} {z cs : List Value} {x : α} (h : DC R t B g w wr rb mb z cs x) (c : Chg (fun b => b = rb) wr W) : DrewR R B g w W cs x := by
  obtain ⟨l1, l2, l3, l4, l5⟩ := h.lt
  have hs := c.size
  exact ⟨R.own_mono (own_chg h.own c (fun j hj e => by have := hj.1; omega)) (fun k hk => ⟨by have := hk.1; omega, by have := hk.2.1; omega⟩), cur_chg h.cur c (fun k hk => by omega) (by omega), chg_via h.chg c l1⟩
theorem db_done {R : Rep α} {t : TypeId} {B g rb mb : Nat} {w wr W : World} {z cs : List Value} {x : α} (h : DB R t B g w wr rb mb z cs x) (c : Chg (fun b => b = rb) wr W) : DrewR R B g w W cs x := dc_done (dc_of h) c
end Go.Proofs.YthbclkpmgcfdnaaGreatDoor
/- A struct that lies at some place of a block (a box, an element of a list, a field of another struct): its cells, one set, others kept; what it owns. No program here. -/
namespace Go.Proofs.YthbclkpmgcfdnaaGreatDoor
open Go.ChangeShapes Go.WideShapes Go.ChangeAt Go.RowKit
set_option linter.unusedVariables false
variable {α : Type}
/-- From off on the cells cs lie in block G, which nobody has frozen. -/
def At (w : World) (t : TypeId) (G off : Nat) (cs : List Value) : Prop := ∃ cur, w.heap[G]? = some (.cells cur t (0, 0)) ∧ off + cs.length ≤ cur.size ∧ ∀ j, j < cs.length → cur[off + j]? = cs[j]?
theorem at_lt {w : World} {t : TypeId} {G off : Nat} {cs : List Value} (h : At w t G off cs) : G < w.heap.size := by
  obtain ⟨cur, h1, _⟩ := h
  exact (Array.getElem?_eq_some_iff.1 h1).1
theorem at_cell {w : World} {t : TypeId} {G off : Nat} {cs : List Value} (h : At w t G off cs) (j : Nat) {v : Value} (hv : cs[j]? = some v) : w.cell? ⟨G, off + j, none⟩ = some v := by
  obtain ⟨cur, h1, _, h3⟩ := h
  rw [cell_of_row w G _ cur t (0, 0) h1, h3 j (List.getElem?_eq_some_iff.1 hv).1]
  exact hv
theorem at_cell0 {w : World} {t : TypeId} {G : Nat} {off : Nat} {cs : List Value} {v : Value} (h : At w t G off (v :: cs)) : w.cell? ⟨G, off, none⟩ = some v := at_cell h 0 rfl
theorem at_froz {w : World} {t : TypeId} {G off : Nat} {cs : List Value} (h : At w t G off cs) (j : Nat) : w.frozen? ⟨G, off + j, none⟩ = false := by
  obtain ⟨cur, h1, _⟩ := h
  exact frozen_of_row w G _ _ t h1
theorem at_froz0 {w : World} {t : TypeId} {G off : Nat} {cs : List Value} (h : At w t G off cs) : w.frozen? ⟨G, off, none⟩ = false := at_froz h 0
theorem at_keep {w w' : World} {t : TypeId} {G off : Nat} {cs : List Value} (h : At w t G off cs) (hk : w'.heap[G]? = w.heap[G]?) : At w' t G off cs := by
  obtain ⟨cur, h1, h2⟩ := h
  exact ⟨cur, hk.trans h1, h2⟩
/-- One cell set. -/
theorem at_set {w : World} {t : TypeId} {G off : Nat} {cs cs' : List Value} (h : At w t G off cs) (j : Nat) (v : Value) (e : cs' = cs.set j v) : At (w.setCell ⟨G, off + j, none⟩ v) t G off cs' := by
  obtain ⟨cur, h1, h2, h3⟩ := h
  subst e
  refine ⟨_, heap_setCell_same w G (off + j) cur t v h1, by simpa using h2, fun i hi => ?_⟩
  rw [List.length_set] at hi
  by_cases hij : i = j
  · subst hij
    rw [Array.getElem?_setIfInBounds_self_of_lt (by omega), List.getElem?_set_self hi]
  · rw [Array.getElem?_setIfInBounds_ne (by omega), List.getElem?_set_ne (by omega)]
    exact h3 i hi
/-- Of block G nothing but the n cells from off on has turned. -/
def In (G off n : Nat) (w w' : World) : Prop := ∀ cur t, w.heap[G]? = some (.cells cur t (0, 0)) → ∃ cur' : Array Value, w'.heap[G]? = some (.cells cur' t (0, 0)) ∧ cur'.size = cur.size ∧ ∀ i, i < off ∨ off + n ≤ i → cur'[i]? = cur[i]?
theorem In.refl (G off n : Nat) (w : World) : In G off n w w := fun cur t h => ⟨cur, h, rfl, fun _ _ => rfl⟩
theorem In.trans {G off n : Nat} {a b c : World} (h : In G off n a b) (k : In G off n b c) : In G off n a c := fun cur t hc => by
  obtain ⟨c1, e1, s1, q1⟩ := h cur t hc
  obtain ⟨c2, e2, s2, q2⟩ := k c1 t e1
  exact ⟨c2, e2, s2.trans s1, fun i hi => (q2 i hi).trans (q1 i hi)⟩
theorem In.same {G off n : Nat} {w w' : World} (h : w'.heap[G]? = w.heap[G]?) : In G off n w w' := fun cur t hc => ⟨cur, h.trans hc, rfl, fun _ _ => rfl⟩
theorem In.set {G off n j : Nat} {w : World} {v : Value} (hj : j < n) : In G off n w (w.setCell ⟨G, off + j, none⟩ v) := fun cur t hc =>
  ⟨_, heap_setCell_same w G (off + j) cur t v hc, by simp, fun i hi => Array.getElem?_setIfInBounds_ne (by omega)⟩
theorem In.mono {G off n off' n' : Nat} {w w' : World} (h : In G off n w w') (h1 : off' ≤ off) (h2 : off + n ≤ off' + n') : In G off' n' w w' := fun cur t hc => by
  obtain ⟨c1, e1, s1, q1⟩ := h cur t hc
  exact ⟨c1, e1, s1, fun i hi => q1 i (by omega)⟩
/-- A struct at a place, and what it owns alone. -/
structure Obj1 (R : Rep α) (t : TypeId) (w : World) (G off : Nat) (S : Foot) (cs : List Value) (x : α) : Prop where
  lies : At w t G off cs
  own : R.own w S cs x
  out : ¬ S G
/-- Nothing has turned but the struct at its place, what it owned, and what is new. -/
structure Turn (G off n : Nat) (S : Foot) (w w' : World) : Prop where
  chg : Chg (fun k => S k ∨ k = G) w w'
  row : In G off n w w'
theorem Turn.refl (G off n : Nat) (S : Foot) (w : World) : Turn G off n S w w := ⟨Chg.refl _ _, In.refl _ _ _ _⟩
theorem Turn.mono {G off n : Nat} {S T : Foot} {w w' : World} (h : Turn G off n S w w') (hs : Sub S T) : Turn G off n T w w' := ⟨h.chg.mono (fun k hk => hk.imp (hs k) id), h.row⟩
/-- What is new since w may turn too. -/
theorem Turn.trans {G off n : Nat} {S S' : Foot} {a b c : World} (h : Turn G off n S a b) (k : Turn G off n S' b c) (hS : ∀ k, S' k → S k ∨ (a.heap.size ≤ k)) : Turn G off n S a c := by
  refine ⟨⟨k.chg.os.trans h.chg.os, k.chg.tape.trans h.chg.tape, k.chg.output.trans h.chg.output, Nat.le_trans h.chg.size k.chg.size, fun j hj hn => ?_⟩, h.row.trans k.row⟩
  have hb := h.chg.size
  refine (k.chg.block j (by omega) (fun hx => ?_)).trans (h.chg.block j hj hn)
  rcases hx with hx | hx
  · rcases hS j hx with h1 | h1
    · exact hn (.inl h1)
    · omega
  · exact hn (.inr hx)
/-- One element of an owned list by itself, as a struct at its place, and the way back. -/
theorem elem_focus {e : TypeId} {R : Rep α} {w : World} {S : Foot} {v : Value} {xs : List α} {j : Nat} {x : α} (h : (slR e R).own w S [v] xs) (hx : xs[j]? = some x) :
    ∃ g cap Sj T c, v = .slice (some ⟨g, 0, none⟩) xs.length cap ∧ S g ∧ Obj1 R e w g (j * R.size) Sj c x ∧ Sub Sj S ∧ Sub T S ∧ Dis Sj T ∧ ¬ T g ∧
      ∀ w' c' x' U V, Obj1 R e w' g (j * R.size) U c' x' → In g (j * R.size) R.size w w' → Keeps T w w' → Dis U T → V g → Sub U V → Sub T V → (slR e R).own w' V [v] (xs.set j x') := by
  obtain ⟨g, cap, cur, Sj, T, c, hv, hSg, hg, hc, hcl, ho, s1, s2, hd, n1, n2, back⟩ := slown_focus h hx
  have hsz : j * R.size + R.size ≤ cur.size ∨ R.size = 0 := by
    by_cases h0 : R.size = 0
    · exact .inr h0
    · left
      have h1 := hc (R.size - 1) (by omega)
      have h2 : (R.size - 1) < c.length := by omega
      rw [List.getElem?_eq_getElem h2] at h1
      have := (Array.getElem?_eq_some_iff.1 h1).1
      omega
  have hle : j * R.size + R.size ≤ cur.size := by
    rcases hsz with h1 | h0
    · exact h1
    · rw [h0]; simp
  refine ⟨g, cap, Sj, T, c, hv, hSg, ⟨⟨cur, hg, by omega, fun i hi => hc i (by omega)⟩, ho, n1⟩, s1, s2, hd, n2, ?_⟩
  intro w' c' x' U V ob hin hk hd2 hV hU hT
  obtain ⟨cur', e1, e2, e3⟩ := hin cur e hg
  obtain ⟨cur2, f1, f2, f3⟩ := ob.lies
  have hcc : cur2 = cur' := by rw [e1] at f1; simp at f1; exact f1.symm
  subst hcc
  have hcl' := R.rd_len (R.own_rd ob.own)
  exact back w' cur2 c' x' U V e1 e2 (fun i hi => e3 i (by omega)) (fun i hi => f3 i (by omega)) hk ob.own hd2 ob.out hV hU hT
/-- One cell of one element is set, the element owns what it owned: a number or a flag. -/
theorem elem_set {e : TypeId} {R : Rep α} {w : World} {S : Foot} {g n cap : Nat} {xs : List α} {j i : Nat} {x x' : α} {v : Value} (h : (slR e R).own w S [.slice (some ⟨g, 0, none⟩) n cap] xs) (hx : xs[j]? = some x) (hi : i < R.size) (hc : ∀ c, R.rd w c x → (∀ W T, R.own W T c x → R.own W T (c.set i v) x')) :
    (slR e R).own (w.setCell ⟨g, j * R.size + i, none⟩ v) S [.slice (some ⟨g, 0, none⟩) n cap] (xs.set j x') := by
  obtain ⟨g1, cap1, Sj, T, c1, hv, hSg, ob, s1, s2, hd, n2, back⟩ := elem_focus h hx
  simp only [Value.slice.injEq, Option.some.injEq, Addr.mk.injEq, and_true] at hv
  obtain ⟨rfl, -, rfl⟩ := hv
  have hk : ∀ F : Foot, ¬ F g → Keeps F w (w.setCell ⟨g, j * R.size + i, none⟩ v) := fun F hF k hk _ => heap_setCell_other w ⟨g, j * R.size + i, none⟩ k v (fun e => hF (by have e' : k = g := e; rw [← e']; exact hk))
  exact back _ (c1.set i v) x' Sj S ⟨at_set ob.lies i v rfl, hc c1 (R.own_rd ob.own) _ _ (R.own_keep ob.own (hk Sj ob.out)), ob.out⟩ (In.set hi) (hk T n2) hd hSg s1 s2
end Go.Proofs.YthbclkpmgcfdnaaGreatDoor
/- The contracts of Put and Masked, of the program: what they answer, in new memory. No condition. -/
namespace Go.Proofs.YthbclkpmgcfdnaaGreatDoor
open Go.ChangeShapes Go.WideShapes Go.ChangeAt Go.RowKit
theorem made_none3 (w : World) (k : Nat) (h : k = w.heap.size) : Made w (w.alloc (.cells #[] 2)) (.slice (some ⟨k, 0, none⟩) 0 0) [] := by
  subst h
  exact made_lit w #[] [] rfl (Nat.zero_le _)

set_option maxHeartbeats 1000000 in
theorem implPut_any (a : Option Addr) (xs : List Int) (cap : Nat) (k u : Int) (w : World) (h : Reads w a xs) :
    Calls Tryz.prog 159 #[.slice a xs.length cap, .int .i64 k, .int .i64 u] w fun e w' => ∃ v, e = .returned (.tuple #[v, .bool (putB xs k u)]) ∧ Made w w' v (putL xs k u) := by
  rcases isL_cases xs with hn | ⟨x, y, rfl, hx, hy⟩
  · have H : Hid (putL xs k u = [] ∧ putB xs k u = false) := by unfold Hid putL putB; simp [hn]
    go_enter Tryz.func159, Tryz.ntmps159
    go_wp2_with fail
    refine (wordsOf_no _ xs _ _ h hn).mono ?_
    rintro e w1 ⟨x, y, rfl, b1⟩
    go_wp2
    refine bodyPost_ret (v := .tuple #[.slice (some ⟨w1.heap.size + 1, 0, none⟩) 0 0, .bool false]) (by simp [results, Tryz.results159, go_sem]) rfl ?_
    rw [H.out.1, H.out.2]
    exact ⟨_, rfl, made_step (b1.alloc b1.size _) (made_none3 _ _ (by simp))⟩
  · have hh := isL_yes hx hy
    have HB : Hid (putB [x, y] k u = (betw k 0 1 && okW u)) := by unfold Hid putB; simp [hh]
    cases hk : betw k 0 1
    · have H : Hid (putL [x, y] k u = [x, y]) := by unfold Hid putL; simp [hk, hh]
      go_enter Tryz.func159, Tryz.ntmps159
      go_wp2_with fail
      refine (wordsOf_yes _ x y _ _ h hx hy).mono ?_
      rintro e w1 ⟨rfl, b1⟩
      go_wp2_with (first
        | (go_at_call 190; refine (wordOk_any _ _).mono ?_; rintro e w' ⟨rfl, rfl⟩)
        | (go_at_call 191; refine (twoList_any _ _ _).mono ?_; rintro e w2 ⟨v, rfl, m2⟩))
      refine bodyPost_ret (v := .tuple #[v, .bool false]) (by simp [results, Tryz.results159, go_sem]) rfl ?_
      rw [H.out, HB.out, hk, Bool.false_and]
      exact ⟨_, rfl, made_step (b1.alloc b1.size _) m2⟩
    · cases hu : okW u
      · have H : Hid (putL [x, y] k u = [x, y]) := by unfold Hid putL; simp [hk, hh, hu]
        go_enter Tryz.func159, Tryz.ntmps159
        go_wp2_with fail
        refine (wordsOf_yes _ x y _ _ h hx hy).mono ?_
        rintro e w1 ⟨rfl, b1⟩
        go_wp2_with (first
          | (go_at_call 190; refine (wordOk_any _ _).mono ?_; rintro e w' ⟨rfl, rfl⟩)
          | (go_at_call 188; refine (valueOk_any _ _).mono ?_; rintro e w' ⟨rfl, rfl⟩)
          | (go_at_call 191; refine (twoList_any _ _ _).mono ?_; rintro e w2 ⟨v, rfl, m2⟩))
        refine bodyPost_ret (v := .tuple #[v, .bool false]) (by simp [results, Tryz.results159, go_sem]) rfl ?_
        rw [H.out, HB.out, hu, Bool.and_false]
        exact ⟨_, rfl, made_step (b1.alloc b1.size _) m2⟩
      · rcases betw_two hk with rfl | rfl
        · have H : Hid (putL [x, y] 0 u = [u, y]) := by unfold Hid putL; simp [hk, hh, hu]
          go_enter Tryz.func159, Tryz.ntmps159
          go_wp2_with fail
          refine (wordsOf_yes _ x y _ _ h hx hy).mono ?_
          rintro e w1 ⟨rfl, b1⟩
          go_wp2_with (first
            | (go_at_call 190; refine (wordOk_any _ _).mono ?_; rintro e w' ⟨rfl, rfl⟩)
            | (go_at_call 188; refine (valueOk_any _ _).mono ?_; rintro e w' ⟨rfl, rfl⟩)
            | (go_at_call 191; refine (twoList_any _ _ _).mono ?_; rintro e w2 ⟨v, rfl, m2⟩))
          refine bodyPost_ret (v := .tuple #[v, .bool true]) (by simp [results, Tryz.results159, go_sem]) rfl ?_
          rw [H.out, HB.out, hk, hu]
          exact ⟨_, rfl, made_step (b1.alloc b1.size _) m2⟩
        · have H : Hid (putL [x, y] 1 u = [x, u]) := by unfold Hid putL; simp [hk, hh, hu]
          go_enter Tryz.func159, Tryz.ntmps159
          go_wp2_with fail
          refine (wordsOf_yes _ x y _ _ h hx hy).mono ?_
          rintro e w1 ⟨rfl, b1⟩
          go_wp2_with (first
            | (go_at_call 190; refine (wordOk_any _ _).mono ?_; rintro e w' ⟨rfl, rfl⟩)
            | (go_at_call 188; refine (valueOk_any _ _).mono ?_; rintro e w' ⟨rfl, rfl⟩)
            | (go_at_call 191; refine (twoList_any _ _ _).mono ?_; rintro e w2 ⟨v, rfl, m2⟩))
          refine bodyPost_ret (v := .tuple #[v, .bool true]) (by simp [results, Tryz.results159, go_sem]) rfl ?_
          rw [H.out, HB.out, hk, hu]
          exact ⟨_, rfl, made_step (b1.alloc b1.size _) m2⟩
end Go.Proofs.YthbclkpmgcfdnaaGreatDoor
