/- The contract of the program's write into its own row of words: the line is masked, all else stays; nothing turns where something is not as told. Conditions: at most 16 lines. -/
import Derived.Test.YteepmhcpjjgihaaMems5
namespace Go.Proofs.Yteepmhcpjjgihaa
open Go.ChangeShapes Go.WideShapes Go.ChangeAt Go.RowKit

theorem pr_set (zs : List Int) (k i : Nat) (x y : Int) (h : k * 2 + 1 < zs.length) : pr ((zs.set (k * 2) x).set (k * 2 + 1) y) i = if i = k then [x, y] else pr zs i := by
  unfold pr
  by_cases e : i = k
  · subst e
    simp [List.getD_eq_getElem?_getD, show i * 2 < zs.length by omega, h]
  · rw [if_neg e]
    have a1 : ¬ k * 2 = i * 2 := by omega
    have a2 : ¬ k * 2 + 1 = i * 2 := by omega
    have a3 : ¬ k * 2 = i * 2 + 1 := by omega
    have a4 : ¬ k * 2 + 1 = i * 2 + 1 := by omega
    rw [List.getD_eq_getElem?_getD, List.getD_eq_getElem?_getD, List.getElem?_set_ne a2, List.getElem?_set_ne a1, List.getElem?_set_ne a4, List.getElem?_set_ne a3, ← List.getD_eq_getElem?_getD, ← List.getD_eq_getElem?_getD]
theorem prs_get {zs : List Int} {n i : Nat} (h : i < n) : (prs zs n)[i]? = some (pr zs i) := by simp [prs, h]
theorem prs_set (zs : List Int) (n k : Nat) (x y : Int) (h : k * 2 + 1 < zs.length) : prs ((zs.set (k * 2) x).set (k * 2 + 1) y) n = (prs zs n).set k [x, y] := by
  apply List.ext_getElem?
  intro i
  rw [List.getElem?_set]
  by_cases hi : i < n
  · rw [prs_get hi, pr_set zs k i x y h, prs_get hi]
    by_cases e : i = k
    · subst e
      simp [prs_len, hi]
    · rw [if_neg e, if_neg (fun e' => e e'.symm)]
  · have h1 : (prs zs n)[i]? = none := List.getElem?_eq_none (by rw [prs_len]; omega)
    have h2 : (prs ((zs.set (k * 2) x).set (k * 2 + 1) y) n)[i]? = none := List.getElem?_eq_none (by rw [prs_len]; omega)
    rw [h1, h2]
    split
    · rename_i e
      subst e
      rw [if_neg (by rw [prs_len]; exact hi)]
    · rfl

theorem grown_of_below {w w' : World} (h : Below w.heap.size w w') (r : Option Nat) : w.grownBy w' r := ⟨h.os, h.tape, h.output, h.size, fun k hk _ => h.block k hk⟩

theorem reads_pr {B g cap j : Nat} {w : World} {zs : List Int} (h : OwnI B w g cap zs) (hj : j * 2 + 2 ≤ zs.length) : Reads w (some ⟨g, j * 2, none⟩) (pr zs j) := by
  refine .inr ⟨g, j * 2, rfl, fun i hi => ?_⟩
  have hi' : i < 2 := hi
  obtain rfl | rfl : i = 0 ∨ i = 1 := by omega
  · exact owni_at h (j * 2) (by omega)
  · exact owni_at h (j * 2 + 1) (by omega)

theorem run_copy_no (w : World) (ty : TypeId) (b o : Nat) (a : Addr) (dc sc : Nat) :
    (Builtin.copy_ #[25, 25] ty #[.slice (some ⟨b, o, none⟩) 2 dc, .slice (some a) 0 sc]).run Try.prog w = .ok (.int .i64 0) w :=
  run_copy_none (P := Try.prog) w 25 25 ty 2 _ _ _ _ _ _ Try.underlying25 Try.sizeI rfl

theorem mask_two {xs ys : List Int} {m : Int} (h : (isL xs && isL ys && betw m 0 3) = true) : ∃ p q, maskL xs ys m = [p, q] := by
  unfold maskL
  rw [if_pos h]
  exact ⟨_, _, rfl⟩

set_option maxHeartbeats 1000000 in
theorem write_off (g cap n c : Nat) (zs ys : List Int) (a : Option Addr) (k m : Int) (w : World) (hz : zs.length = n * 2) (hn : n ≤ 16) (hk : betw k 0 ((n : Int) - 1) = false) :
    Calls Try.prog 39 #[.slice (some ⟨g, 0, none⟩) zs.length cap, .int .i64 k, .slice a ys.length c, .int .i64 m] w fun e w' => e = .returned (.bool false) ∧ w' = w := by
  have HZ : Hid (zs.length = n * 2) := hz
  clear hz
  go_enter Try.func39, Try.ntmps39
  go_wp2_with (go_at_call 41; refine (rowHas_any _ n _ _ _ _ hn HZ.out).mono ?_; rintro e w' ⟨rfl, rfl⟩)
  go_ret
  exact ⟨rfl, rfl⟩

set_option maxHeartbeats 1000000 in
theorem write_not (B g cap n c j : Nat) (zs ys : List Int) (a : Option Addr) (m : Int) (w : World) (h : OwnI B w g cap zs) (hr : Reads w a ys) (hz : zs.length = n * 2) (hn : n ≤ 16) (hj : j < n)
    (hm : (isL (pr zs j) && isL ys && betw m 0 3) = false) :
    Calls Try.prog 39 #[.slice (some ⟨g, 0, none⟩) zs.length cap, .int .i64 j, .slice a ys.length c, .int .i64 m] w fun e w' => e = .returned (.bool false) ∧ Below w.heap.size w w' := by
  have hk : betw (j : Int) 0 ((n : Int) - 1) = true := by simp [betw]; omega
  have hc := (owni_cap h).1
  have he : maskL (pr zs j) ys m = [] := by unfold maskL; rw [hm]; rfl
  have RP : Hid (Reads w (some ⟨g, j * 2, none⟩) (pr zs j)) := reads_pr h (by omega)
  have HZ : Hid (zs.length = n * 2) := hz
  have hcc : j * 2 + 2 ≤ cap := by omega
  have HM : Hid _ := he
  clear hz he hm h
  go_enter Try.func39, Try.ntmps39
  go_wp2_with (first
    | (go_at_call 41; refine (rowHas_any _ n _ _ _ _ hn HZ.out).mono ?_; rintro e w' ⟨rfl, hw'⟩; rw [hw']; clear hw' w')
    | (go_at_call 55; refine (cut_any _ _ _ _ _ (by omega) hcc).mono ?_; rintro e w' ⟨rfl, hw'⟩; rw [hw']; clear hw' w'))
  refine (implMasked_any _ _ (pr zs j) ys 2 c m w RP.out hr).mono ?_
  rintro e w1 ⟨v, rfl, mm⟩
  rw [HM.out] at mm
  obtain ⟨g1, c1, rfl, l1, l1', o1, b1⟩ := mm
  have CP := run_copy_no w1 3 g (j * 2) ⟨g1, 0, none⟩ 2 c1
  go_wp2
  go_ret
  exact ⟨rfl, b1⟩

set_option maxHeartbeats 1000000 in
theorem write_yes (B g cap n c j : Nat) (zs ys : List Int) (a : Option Addr) (m p q : Int) (w : World) (h : OwnI B w g cap zs) (hr : Reads w a ys) (hz : zs.length = n * 2) (hn : n ≤ 16) (hj : j < n)
    (he : maskL (pr zs j) ys m = [p, q]) :
    Calls Try.prog 39 #[.slice (some ⟨g, 0, none⟩) zs.length cap, .int .i64 j, .slice a ys.length c, .int .i64 m] w fun e w' => e = .returned (.bool true) ∧
      OwnI B w' g cap ((zs.set (j * 2) p).set (j * 2 + 1) q) ∧ w.grownBy w' (some g) := by
  have hk : betw (j : Int) 0 ((n : Int) - 1) = true := by simp [betw]; omega
  have hc := (owni_cap h).1
  have RP : Hid (Reads w (some ⟨g, j * 2, none⟩) (pr zs j)) := reads_pr h (by omega)
  have HZ : Hid (zs.length = n * 2) := hz
  have hcc : j * 2 + 2 ≤ cap := by omega
  have HM : Hid _ := he
  clear hz he
  go_enter Try.func39, Try.ntmps39
  go_wp2_with (first
    | (go_at_call 41; refine (rowHas_any _ n _ _ _ _ hn HZ.out).mono ?_; rintro e w' ⟨rfl, hw'⟩; rw [hw']; clear hw' w')
    | (go_at_call 55; refine (cut_any _ _ _ _ _ (by omega) hcc).mono ?_; rintro e w' ⟨rfl, hw'⟩; rw [hw']; clear hw' w'))
  refine (implMasked_any _ _ (pr zs j) ys 2 c m w RP.out hr).mono ?_
  rintro e w1 ⟨v, rfl, mm⟩
  rw [HM.out] at mm
  obtain ⟨g1, c1, rfl, l1, l1', o1, b1⟩ := mm
  have h1 := owni_below h b1 (owni_lt h).2
  have CP := run_copy_two w1 3 g (j * 2) B cap zs ⟨g1, 0, none⟩ 2 c1 p q h1 (by have := HZ.out; omega) (owni_at o1 0 (by simp)) (owni_at o1 1 (by simp))
  have HO : Hid _ := copied_two h1 (j * 2) p q
  clear h1 h RP
  generalize hW : w1.setCells g (j * 2) [.int .i64 p, .int .i64 q] = W at CP HO
  clear hW
  go_wp2
  go_ret
  exact ⟨rfl, HO.out.1, grown_trans (grown_of_below b1 _) HO.out.2⟩


end Go.Proofs.Yteepmhcpjjgihaa
