
import Derived.Test.YtpfgggjcaogkkaaOwn
import Derived.Test.YtpfgggjcaogkkaaCopies
import Derived.LoopN
/- What is marked with rising numbers; lists of numbers as both laws tell them. No program here. -/
namespace Go.Proofs.Ytpfgggjcaogkkaa
open Go.ChangeShapes Go.WideShapes Go.ChangeAt Go.RowKit
set_option linter.unusedVariables false

section
variable {α β : Type}

/-- cE, mE: as an element of a slice (its numbers too); cV, mV: by value (its slices alone); bk: how many elements in all. -/
structure Mk (α : Type) where
  cE : α → Nat
  mE : Int → α → α
  cV : α → Nat
  mV : Int → α → α
  bk : α → Nat
def intM : Mk Int := ⟨fun _ => 1, fun k _ => k, fun _ => 0, fun _ x => x, fun _ => 0⟩
def boolM : Mk Bool := ⟨fun _ => 1, fun k _ => k % 3 == 0, fun _ => 0, fun _ b => b, fun _ => 0⟩
def prodM (M : Mk α) (N : Mk β) : Mk (α × β) :=
  ⟨fun a => M.cE a.1 + N.cE a.2, fun k a => (M.mE k a.1, N.mE (k + M.cE a.1) a.2), fun a => M.cV a.1 + N.cV a.2, fun k a => (M.mV k a.1, N.mV (k + M.cV a.1) a.2), fun a => M.bk a.1 + N.bk a.2⟩
def sumbk (M : Mk α) (xs : List α) : Nat := (xs.map M.bk).sum
def slcnt (M : Mk α) (xs : List α) : Nat := (xs.map M.cE).sum
def slmark (M : Mk α) : Int → List α → List α
  | _, [] => []
  | k, x :: xs => M.mE k x :: slmark M (k + M.cE x) xs
def slM (M : Mk α) : Mk (List α) := ⟨slcnt M, slmark M, slcnt M, slmark M, fun xs => xs.length + sumbk M xs⟩

theorem slmark_len (M : Mk α) : ∀ (k : Int) (xs : List α), (slmark M k xs).length = xs.length
  | _, [] => rfl
  | k, x :: xs => by simp [slmark, slmark_len M _ xs]
theorem slcnt_step {M : Mk α} {xs : List α} {j : Nat} {x : α} (h : xs[j]? = some x) : slcnt M (xs.take (j + 1)) = slcnt M (xs.take j) + M.cE x := by
  simp [slcnt, List.take_add_one, h]
theorem slcnt_take (M : Mk α) (xs : List α) (j : Nat) : slcnt M (xs.take j) ≤ slcnt M xs := by
  have : slcnt M xs = slcnt M (xs.take j) + slcnt M (xs.drop j) := by
    conv => lhs; rw [← List.take_append_drop j xs]
    unfold slcnt
    rw [List.map_append, List.sum_append]
  omega
theorem slcnt_get {M : Mk α} {xs : List α} {j : Nat} {x : α} (h : xs[j]? = some x) : slcnt M (xs.take j) + M.cE x ≤ slcnt M xs := by
  have h1 := slcnt_step (M := M) h
  have h2 := slcnt_take M xs (j + 1)
  omega
theorem slmark_at {M : Mk α} : ∀ {xs : List α} {k : Int} {j : Nat} {x : α}, xs[j]? = some x → (slmark M k xs)[j]? = some (M.mE (k + slcnt M (xs.take j)) x)
  | [], k, j, x, h => by simp at h
  | y :: ys, k, 0, x, h => by
    simp at h
    subst h
    simp [slmark, slcnt]
  | y :: ys, k, j + 1, x, h => by
    simp at h
    have := slmark_at (M := M) (k := k + M.cE y) h
    simp only [slmark, List.getElem?_cons_succ, this, List.take_succ_cons, slcnt, List.map_cons, List.sum_cons]
    congr 2
    omega

theorem sumbk_step {M : Mk α} {xs : List α} {j : Nat} {x : α} (h : xs[j]? = some x) : sumbk M (xs.take (j + 1)) = sumbk M (xs.take j) + M.bk x := by
  simp [sumbk, List.take_add_one, h]
theorem sumbk_take (M : Mk α) (xs : List α) (j : Nat) : sumbk M (xs.take j) ≤ sumbk M xs := by
  have : sumbk M xs = sumbk M (xs.take j) + sumbk M (xs.drop j) := by
    conv => lhs; rw [← List.take_append_drop j xs]
    unfold sumbk
    rw [List.map_append, List.sum_append]
  omega
theorem sumbk_get {M : Mk α} {xs : List α} {j : Nat} {x : α} (h : xs[j]? = some x) : sumbk M (xs.take j) + M.bk x ≤ sumbk M xs := by
  have h1 := sumbk_step (M := M) h
  have h2 := sumbk_take M xs (j + 1)
  omega
def Bd (M : Mk α) (K : Nat) : Prop := ∀ x, M.cE x ≤ K * (1 + M.bk x)
theorem bd_int : Bd intM 1 := fun _ => by simp [intM]
theorem bd_bool : Bd boolM 1 := fun _ => by simp [boolM]
theorem bd_prod {M : Mk α} {N : Mk β} {K L : Nat} (h : Bd M K) (k : Bd N L) : Bd (prodM M N) (K + L) := fun x => by
  have h1 := h x.1
  have h2 := k x.2
  show M.cE x.1 + N.cE x.2 ≤ (K + L) * (1 + (M.bk x.1 + N.bk x.2))
  have e1 : K * (1 + M.bk x.1) ≤ K * (1 + (M.bk x.1 + N.bk x.2)) := Nat.mul_le_mul_left _ (by omega)
  have e2 : L * (1 + N.bk x.2) ≤ L * (1 + (M.bk x.1 + N.bk x.2)) := Nat.mul_le_mul_left _ (by omega)
  rw [Nat.add_mul]
  omega
theorem slcnt_bd {M : Mk α} {K : Nat} (h : Bd M K) (xs : List α) : slcnt M xs ≤ K * (slM M).bk xs := by
  induction xs with
  | nil => exact Nat.zero_le _
  | cons x xs ih =>
    have h1 := h x
    have e : (slM M).bk (x :: xs) = (1 + M.bk x) + (slM M).bk xs := by
      simp [slM, sumbk]
      omega
    rw [e, Nat.mul_add]
    simp only [slcnt, List.map_cons, List.sum_cons] at ih ⊢
    omega
theorem bd_sl {M : Mk α} {K : Nat} (h : Bd M K) : Bd (slM M) K := fun xs => by
  have h1 := slcnt_bd h xs
  have h2 : K * (slM M).bk xs ≤ K * (1 + (slM M).bk xs) := Nat.mul_le_mul_left _ (by omega)
  exact Nat.le_trans h1 h2

/- The first j are marked. -/
def pmark (M : Mk α) (k : Int) (xs : List α) (j : Nat) : List α := (slmark M k xs).take j ++ xs.drop j
theorem pmark_zero (M : Mk α) (k : Int) (xs : List α) : pmark M k xs 0 = xs := by simp [pmark]
theorem pmark_all (M : Mk α) (k : Int) (xs : List α) : pmark M k xs xs.length = slmark M k xs := by
  simp [pmark, List.take_of_length_le (Nat.le_of_eq (slmark_len M k xs))]
theorem pmark_len (M : Mk α) (k : Int) (xs : List α) (j : Nat) (h : j ≤ xs.length) : (pmark M k xs j).length = xs.length := by
  simp [pmark, slmark_len]
  omega
theorem pmark_at {M : Mk α} {k : Int} {xs : List α} {j : Nat} {x : α} (h : xs[j]? = some x) : (pmark M k xs j)[j]? = some x := by
  have hj := (List.getElem?_eq_some_iff.1 h).1
  have hl : ((slmark M k xs).take j).length = j := by simp [slmark_len]; omega
  rw [pmark, List.getElem?_append_right (by omega), hl, Nat.sub_self, List.getElem?_drop]
  exact h
theorem pmark_step {M : Mk α} {k : Int} {xs : List α} {j : Nat} {x : α} (h : xs[j]? = some x) : (pmark M k xs j).set j (M.mE (k + slcnt M (xs.take j)) x) = pmark M k xs (j + 1) := by
  have hj := (List.getElem?_eq_some_iff.1 h).1
  have hl : ((slmark M k xs).take j).length = j := by simp [slmark_len]; omega
  have hm := slmark_at (M := M) (k := k) h
  rw [pmark, pmark, List.set_append_right _ _ (by omega), hl, Nat.sub_self, List.drop_eq_getElem_cons hj, List.set_cons_zero, List.take_add_one, hm]
  simp

/- Lists of numbers. -/
abbrev intsR : Rep (List Int) := slR 2 intR
abbrev intsM : Mk (List Int) := slM intM

theorem lrd_ints {w : World} : ∀ {rows : List Value} {xs : List Int}, lrd intR w rows xs ↔ rows = xs.map (Value.int .i64) ∧ ∀ x ∈ xs, In64 x
  | rows, [] => by simp [lrd]
  | rows, x :: xs => by
    constructor
    · rintro ⟨c1, c2, rfl, ⟨rfl, h1⟩, h2⟩
      obtain ⟨rfl, h3⟩ := lrd_ints.1 h2
      exact ⟨rfl, by simpa using ⟨h1, h3⟩⟩
    · rintro ⟨rfl, h⟩
      simp at h
      exact ⟨[.int .i64 x], xs.map (Value.int .i64), rfl, ⟨rfl, h.1⟩, lrd_ints.2 ⟨rfl, h.2⟩⟩
theorem lown_ints {w : World} {S : Foot} : ∀ {rows : List Value} {xs : List Int}, lrd intR w rows xs → lown intR w S rows xs
  | rows, [], h => h
  | rows, x :: xs, ⟨c1, c2, e, h1, h2⟩ => ⟨c1, c2, fun _ => False, S, e, h1, lown_ints h2, fun _ h => h.elim, Sub.refl _, fun _ h _ => h⟩

theorem reads_of {w : World} {a : Option Addr} {xs : List Int} (h : SlRd intR w a xs) : Reads w a xs := by
  rcases h with h | ⟨b, off, rows, rfl, h1, h2⟩
  · exact .inl h
  · obtain ⟨rfl, _⟩ := lrd_ints.1 h1
    refine .inr ⟨b, off, rfl, fun j hj => h2 j _ ?_⟩
    simp [List.getD_eq_getElem?_getD, List.getElem?_eq_getElem hj]
theorem in64_of {w : World} {a : Option Addr} {xs : List Int} (h : SlRd intR w a xs) : ∀ x ∈ xs, In64 x := by
  rcases h with rfl | ⟨b, off, rows, rfl, h1, h2⟩
  · simp
  · exact (lrd_ints.1 h1).2
theorem slrd_of {w : World} {a : Option Addr} {xs : List Int} (h : Reads w a xs) (h64 : ∀ x ∈ xs, In64 x) : SlRd intR w a xs := by
  rcases h with h | ⟨b, off, rfl, h1⟩
  · exact .inl h
  · refine .inr ⟨b, off, _, rfl, lrd_ints.2 ⟨rfl, h64⟩, fun j u hu => ?_⟩
    rw [List.getElem?_map] at hu
    obtain ⟨x, hx, rfl⟩ := Option.map_eq_some_iff.1 hu
    rw [h1 j (List.getElem?_eq_some_iff.1 hx).1]
    simp [List.getD_eq_getElem?_getD, hx]

theorem madeR_ints {w w' : World} {v : Value} {zs : List Int} (h : Made w w' v zs) (h64 : ∀ x ∈ zs, In64 x) : MadeR intsR w w' [v] zs := by
  obtain ⟨g, cap, rfl, h1, h2, h3, h4⟩ := h
  refine ⟨⟨_, zs.map (Value.int .i64), fun _ => False, rfl, row_base h3 (fun _ _ => Nat.zero_le _), fun g' hg => ?_, fun _ h => h.elim, lown_ints (lrd_ints.2 ⟨rfl, h64⟩)⟩, h4⟩
  simp [Value.ownBlock] at hg
  subst hg
  exact ⟨⟨h1, h2⟩, fun h => h⟩
theorem owni_of {S : Foot} {w : World} {v : Value} {zs : List Int} (h : intsR.own w S [v] zs) : (v = .slice none 0 0 ∧ zs = []) ∨ ∃ g cap, v = .slice (some ⟨g, 0, none⟩) zs.length cap ∧ S g ∧ OwnI 0 w g cap zs := by
  obtain ⟨v', rows, S', hv, hr, hg, hs, hl⟩ := h
  simp only [List.cons.injEq, and_true] at hv
  subst hv
  obtain ⟨rfl, _⟩ := lrd_ints.1 (lown_rd hl)
  rcases hr.2 with ⟨rfl, h0⟩ | ⟨g, cap, cur, rfl, rest⟩
  · exact .inl ⟨rfl, List.eq_nil_of_length_eq_zero h0⟩
  · exact .inr ⟨g, cap, rfl, (hg g rfl).1, hr⟩
theorem own_of {S : Foot} {B : Nat} {w : World} {g cap : Nat} {zs : List Int} (h : OwnI B w g cap zs) (hS : S g) (h64 : ∀ x ∈ zs, In64 x) : intsR.own w S [.slice (some ⟨g, 0, none⟩) zs.length cap] zs := by
  refine ⟨_, zs.map (Value.int .i64), fun _ => False, rfl, row_base h (fun _ _ => Nat.zero_le _), fun g' hg => ?_, fun _ h => h.elim, lown_ints (lrd_ints.2 ⟨rfl, h64⟩)⟩
  simp [Value.ownBlock] at hg
  subst hg
  exact ⟨hS, fun h => h⟩
theorem slcnt_ints (xs : List Int) : slcnt intM xs = xs.length := by
  induction xs with
  | nil => rfl
  | cons x xs ih =>
    simp only [slcnt, List.map_cons, List.sum_cons, List.length_cons] at ih ⊢
    rw [ih]
    simp [intM]
    omega
theorem slmark_ints : ∀ (k : Int) (xs : List Int), slmark intM k xs = seqs k xs.length
  | k, [] => rfl
  | k, x :: xs => by
    rw [slmark, slmark_ints]
    simp only [seqs, List.length_cons, List.range_succ_eq_map, List.map_cons, List.map_map, intM]
    congr 1
    · simp
    · apply List.map_congr_left
      intro a _
      simp
      omega

end
end Go.Proofs.Ytpfgggjcaogkkaa

/- The contracts of the laws' own helpers over lists of numbers, in the one form that all types have. Conditions: lengths that a machine can hold. -/
namespace Go.Proofs.Ytpfgggjcaogkkaa
open Go.ChangeShapes Go.WideShapes Go.ChangeAt Go.RowKit
set_option linter.unusedVariables false

def szI (n : Nat) (left : Int) : Int := if (n : Int) ≤ left then left - n else -1
theorem szI_yes {n : Nat} {left : Int} (h : (n : Int) ≤ left) : szI n left = left - n := by unfold szI; rw [if_pos h]
theorem szI_no {n : Nat} {left : Int} (h : ¬ (n : Int) ≤ left) : szI n left = -1 := by unfold szI; rw [if_neg h]

set_option maxHeartbeats 400000 in
theorem szInt64S_rep (a : Option Addr) (xs : List Int) (cap : Nat) (left : Int) (w : World) (h0 : 0 ≤ left) (h1 : left ≤ 1048576) (hm : xs.length ≤ maxLen) :
    Calls Try.prog 18 #[.slice a xs.length cap, .int .i64 left] w fun e w' => e = .returned (.int .i64 (szI (intsM.bk xs) left)) ∧ w' = w := by
  have hb : intsM.bk xs = xs.length := by
    show xs.length + sumbk intM xs = xs.length
    have : sumbk intM xs = 0 := by
      induction xs with
      | nil => rfl
      | cons x xs ih => simp only [sumbk, List.map_cons, List.sum_cons] at ih ⊢; rw [ih (by simp at hm; omega)]; rfl
    omega
  rw [hb]
  have hm' : xs.length ≤ 9223372036854775807 := hm
  clear hm hb
  generalize xs.length = n at hm'
  by_cases hl : (n : Int) ≤ left
  · have hl' : ¬ (left - (n : Int) < 0) := by omega
    rw [szI_yes hl]
    go_enter Try.func18, Try.ntmps18
    go_wp2
    go_ret
    exact ⟨rfl, rfl⟩
  · have hl' : left - (n : Int) < 0 := by omega
    rw [szI_no hl]
    go_enter Try.func18, Try.ntmps18
    go_wp2
    go_ret
    exact ⟨rfl, rfl⟩

theorem toInt64S_rep (a : Option Addr) (xs : List Int) (cap : Nat) (w : World) (h : SlRd intR w a xs) (hm : intsM.bk xs ≤ 1048576) :
    Calls Try.prog 20 #[.slice a xs.length cap] w fun e w' => ∃ v, e = .returned v ∧ MadeR intsR w w' [v] xs :=
  (toInts_any a xs cap w (reads_of h) (by have : intsM.bk xs = xs.length + sumbk intM xs := rfl; omega)).mono fun e w' ⟨v, h1, h2⟩ => ⟨v, h1, madeR_ints h2 (in64_of h)⟩

theorem eqInt64S_rep (a1 a2 : Option Addr) (xs : List Int) (c1 c2 : Nat) (w : World) (h1 : SlRd intR w a1 xs) (h2 : SlRd intR w a2 xs) (hm : intsM.bk xs ≤ 1152921504606846976) :
    Calls Try.prog 23 #[.slice a1 xs.length c1, .slice a2 xs.length c2] w fun e w' => e = .returned (.bool true) ∧ ∃ n, w' = w.drewN n :=
  eqInts_any a1 a2 xs c1 c2 w (reads_of h1) (reads_of h2) (by have : intsM.bk xs = xs.length + sumbk intM xs := rfl; omega)

set_option maxHeartbeats 400000 in
theorem markInt64S_nil (k : Int) (w : World) :
    Calls Try.prog 16 #[.slice none 0 0, .int .i64 k] w fun e' w' => e' = .returned (.int .i64 k) ∧ w' = w := by
  go_enter Try.func16, Try.ntmps16
  go_wp2
  refine wp_loop_rounds 1 ?_
  rw [rounds_succ]
  go_wp2
  go_ret
  exact ⟨rfl, rfl⟩

theorem seqs_in64 {k : Int} {n : Nat} (h0 : 0 ≤ k) (h1 : k ≤ 1152921504606846976) (hm : n ≤ 1152921504606846976) : ∀ x ∈ seqs k n, In64 x := by
  intro x hx
  simp only [seqs, List.mem_map, List.mem_range] at hx
  obtain ⟨j, hj, rfl⟩ := hx
  constructor <;> omega

theorem markInt64S_rep (S : Foot) (v : Value) (k : Int) (xs : List Int) (w : World) (h0 : 0 ≤ k) (h1 : k ≤ 1152921504606846976) (hm : slcnt intM xs ≤ 1152921504606846976) (h : intsR.own w S [v] xs) :
    Calls Try.prog 16 #[v, .int .i64 k] w fun e' w' => e' = .returned (.int .i64 (k + slcnt intM xs)) ∧ intsR.own w' S [v] (slmark intM k xs) ∧ Chg S w w' := by
  rw [slcnt_ints] at hm ⊢
  rw [slmark_ints]
  rcases owni_of h with ⟨rfl, rfl⟩ | ⟨g, cap, rfl, hS, ho⟩
  · exact (markInt64S_nil k w).mono fun e w' ⟨e1, e2⟩ => ⟨by simpa using e1, by rw [e2]; exact h, by rw [e2]; exact Chg.refl _ _⟩
  · refine (mark_any 0 _ g cap k xs.length _ w h0 (by omega) (by omega) ho).mono fun e w' ⟨e1, e2, e3⟩ => ⟨e1, ?_, chg_grown e3 hS⟩
    have := own_of (S := S) (B := 0) (w := w') (g := g) (cap := cap) (zs := seqs k xs.length) (by unfold OwnI; rw [seqs_len]; exact e2) hS (seqs_in64 h0 h1 hm)
    rwa [seqs_len] at this

theorem heldInt64S_rep (a : Option Addr) (cap : Nat) (k : Int) (xs : List Int) (w : World) (h0 : 0 ≤ k) (h1 : k ≤ 1152921504606846976) (hm : slcnt intM xs ≤ 1152921504606846976) (h : SlRd intR w a (slmark intM k xs)) :
    Calls Try.prog 17 #[.slice a xs.length cap, .int .i64 k] w fun e' w' => e' = .returned (.int .i64 (k + slcnt intM xs)) ∧ w' = w := by
  rw [slcnt_ints] at hm ⊢
  rw [slmark_ints] at h
  exact held_any a cap k xs.length w h0 (by omega) (by omega) (reads_of h)

end Go.Proofs.Ytpfgggjcaogkkaa

/- What is more to be said of slices that a call owns. No program here. -/
namespace Go.Proofs.Ytpfgggjcaogkkaa
open Go.ChangeShapes Go.WideShapes Go.ChangeAt Go.RowKit
set_option linter.unusedVariables false

section
variable {α β : Type}
theorem fill_below {e : TypeId} {R : Rep α} {w0 w : World} {n : Nat} {xs : List α} (h : Fill e R w0 w n xs) : Below w0.heap.size w0 w := by
  obtain ⟨_, _, _, _, hb, _⟩ := h
  exact hb
theorem slown_form {e : TypeId} {R : Rep α} {w : World} {S : Foot} {v : Value} {xs : List α} (h : (slR e R).own w S [v] xs) : (v = .slice none 0 0 ∧ xs = []) ∨ ∃ g cap, v = .slice (some ⟨g, 0, none⟩) xs.length cap ∧ S g := by
  obtain ⟨v', rows, S', hv, hr, hg, hs, hl⟩ := h
  simp only [List.cons.injEq, and_true] at hv
  subst hv
  rcases hr.2 with ⟨rfl, h0⟩ | ⟨g, cap, cur, rfl, rest⟩
  · exact .inl ⟨rfl, List.eq_nil_of_length_eq_zero h0⟩
  · exact .inr ⟨g, cap, rfl, (hg g rfl).1⟩
theorem slown_val {e : TypeId} {R : Rep α} {w : World} {S : Foot} {v : Value} {xs : List α} (h : (slR e R).own w S [v] xs) : ∃ a c, v = .slice a xs.length c := by
  rcases slown_form h with ⟨rfl, rfl⟩ | ⟨g, cap, rfl, _⟩
  · exact ⟨none, 0, rfl⟩
  · exact ⟨_, _, rfl⟩
end
end Go.Proofs.Ytpfgggjcaogkkaa
