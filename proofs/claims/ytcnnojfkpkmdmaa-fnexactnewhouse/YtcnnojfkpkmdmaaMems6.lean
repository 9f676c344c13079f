
/- The contract of the program's write into its own row of words: the line is masked, all else stays; nothing turns where something is not as told. Conditions: at most 16 lines. -/
import Derived.Test.YtcnnojfkpkmdmaaMems5
namespace Go.Proofs.Ytcnnojfkpkmdmaa
open Go.ChangeShapes Go.WideShapes Go.ChangeAt Go.RowKit

theorem pr_set (zs : List Int) (k i : Nat) (x y : Int) (h : k * 2 + 1 < zs.length) : pr ((zs.set (k * 2) x).set (k * 2 + 1) y) i = if i = k then [x, y] else pr zs i := by
  unfold pr
  by_cases e : i = k
  · subst e
    simp [List.getD_eq_getElem?_getD, show i * 2 < zs.length by omega, h]
  · rw [if_neg e]
    have a1 : ¬ k * 2 = i * 2 := by omega
    have a2 : ¬ k * 2 + 1 = i * 2 := by omega
    have a3 : ¬ k * 2 = i * 2 + 1 := by omega
    have a4 : ¬ k * 2 + 1 = i * 2 + 1 := by omega
    rw [List.getD_eq_getElem?_getD, List.getD_eq_getElem?_getD, List.getElem?_set_ne a2, List.getElem?_set_ne a1, List.getElem?_set_ne a4, List.getElem?_set_ne a3, ← List.getD_eq_getElem?_getD, ← List.getD_eq_getElem?_getD]
theorem prs_get {zs : List Int} {n i : Nat} (h : i < n) : (prs zs n)[i]? = some (pr zs i) := by simp [prs, h]
theorem prs_set (zs : List Int) (n k : Nat) (x y : Int) (h : k * 2 + 1 < zs.length) : prs ((zs.set (k * 2) x).set (k * 2 + 1) y) n = (prs zs n).set k [x, y] := by
  apply List.ext_getElem?
  intro i
  rw [List.getElem?_set]
  by_cases hi : i < n
  · rw [prs_get hi, pr_set zs k i x y h, prs_get hi]
    by_cases e : i = k
    · subst e
      simp [prs_len, hi]
    · rw [if_neg e, if_neg (fun e' => e e'.symm)]
  · have h1 : (prs zs n)[i]? = none := List.getElem?_eq_none (by rw [prs_len]; omega)
    have h2 : (prs ((zs.set (k * 2) x).set (k * 2 + 1) y) n)[i]? = none := List.getElem?_eq_none (by rw [prs_len]; omega)
    rw [h1, h2]
    split
    · rename_i e
      subst e
      rw [if_neg (by rw [prs_len]; exact hi)]
    · rfl

theorem grown_of_below {w w' : World} (h : Below w.heap.size w w') (r : Option Nat) : w.grownBy w' r := ⟨h.os, h.tape, h.output, h.size, fun k hk _ => h.block k hk⟩

theorem reads_pr {B g cap j : Nat} {w : World} {zs : List Int} (h : OwnI B w g cap zs) (hj : j * 2 + 2 ≤ zs.length) : Reads w (some ⟨g, j * 2, none⟩) (pr zs j) := by
  refine .inr ⟨g, j * 2, rfl, fun i hi => ?_⟩
  have hi' : i < 2 := hi
  obtain rfl | rfl : i = 0 ∨ i = 1 := by omega
  · exact owni_at h (j * 2) (by omega)
  · exact owni_at h (j * 2 + 1) (by omega)

theorem run_copy_no (w : World) (ty : TypeId) (b o : Nat) (a : Addr) (dc sc : Nat) :
    (Builtin.copy_ #[38, 38] ty #[.slice (some ⟨b, o, none⟩) 2 dc, .slice (some a) 0 sc]).run Try.prog w = .ok (.int .i64 0) w :=
  run_copy_none (P := Try.prog) w 38 38 ty 2 _ _ _ _ _ _ Try.underlying38 Try.sizeI rfl

theorem mask_two {xs ys : List Int} {m : Int} (h : (isL xs && isL ys && betw m 0 3) = true) : ∃ p q, maskL xs ys m = [p, q] := by
  unfold maskL
  rw [if_pos h]
  exact ⟨_, _, rfl⟩

end Go.Proofs.Ytcnnojfkpkmdmaa
