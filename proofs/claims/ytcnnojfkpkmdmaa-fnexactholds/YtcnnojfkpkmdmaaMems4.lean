
/- The contracts of the program's own row of words: a new one, how many lines it has, a line cut of it, a line copied of it. Conditions: at most 16 lines. -/
import Derived.Test.YtcnnojfkpkmdmaaMems3
import Derived.Test.YtcnnojfkpkmdmaaLinesOk
import Derived.Test.YtcnnojfkpkmdmaaLines5
import Derived.Laws.IdiomCopy
import Derived.Laws.Slices
namespace Go.Proofs.Ytcnnojfkpkmdmaa
open Go.ChangeShapes Go.WideShapes Go.ChangeAt Go.RowKit

theorem made_zeroM (n : Nat) : (madeCells #[.int .i64 0] n).toList = (List.replicate n (0 : Int)).map (Value.int .i64) := by
  apply List.ext_getElem?
  intro i
  simp only [madeCells, Array.toList_map, Array.toList_range, List.getElem?_map, List.getElem?_replicate]
  by_cases h : i < n
  · simp [h, Nat.mod_one]
  · simp [h]

theorem owni_cap {B g cap : Nat} {w : World} {zs : List Int} (h : OwnI B w g cap zs) : zs.length ≤ cap ∧ cap ≤ maxLen := by
  rcases h.2 with ⟨h', _⟩ | ⟨g', cap', cur, h', hb', hgg, hc, hm, rest⟩
  · simp at h'
  · simp only [Value.slice.injEq, Option.some.injEq, Addr.mk.injEq, and_true, true_and] at h'
    obtain ⟨rfl, rfl⟩ := h'
    exact ⟨hc, hm⟩

set_option maxHeartbeats 400000 in
theorem newRow_any (n : Nat) (w : World) (hn : n ≤ 16) : Calls Try.prog 54 #[.int .i64 n] w fun e w' => ∃ v, e = .returned v ∧ Made w w' v (List.replicate (n * 2) 0) := by
  have hmk := Go.run_make_row' (P := Try.prog) 64 2 (.int .i64 0) 8 Try.underlying64 Try.infoI rfl .i64 .i64 (n * 2) (by omega) (by omega)
  have e2 : ((n * 2 : Nat) : Int) = (n : Int) * 2 := by omega
  simp only [e2] at hmk
  have M := made_lit w (madeCells #[.int .i64 0] (n * 2)) (List.replicate (n * 2) 0) (made_zeroM _) (by unfold maxLen; simp; omega)
  rw [List.length_replicate] at M
  have HM : Hid _ := M
  clear M
  go_enter Try.func54, Try.ntmps54
  go_wp2
  go_ret
  exact ⟨_, rfl, HM.out⟩

set_option maxHeartbeats 400000 in
theorem rowLines_any (a : Option Addr) (m n cap : Nat) (w : World) (hn : m ≤ 16) (he : n = m * 2) : Calls Try.prog 68 #[.slice a n cap] w fun e w' => e = .returned (.int .i64 m) ∧ w' = w := by
  subst he
  have e2 : Int.tdiv ((m : Int) * 2) 2 = m := by rw [Int.tdiv_eq_ediv_of_nonneg (by omega)]; omega
  go_enter Try.func68, Try.ntmps68
  go_wp2
  go_ret
  refine ⟨ret_int ?_, rfl⟩
  first | rfl | (simp; done) | omega | (simp; omega)

set_option maxHeartbeats 400000 in
theorem cut_any (g n cap j : Nat) (w : World) (hj : j ≤ 16) (h : j * 2 + 2 ≤ cap) : Calls Try.prog 63 #[.slice (some ⟨g, 0, none⟩) n cap, .int .i64 j] w fun e w' => e = .returned (.slice (some ⟨g, j * 2, none⟩) 2 2) ∧ w' = w := by
  go_enter Try.func63, Try.ntmps63
  go_wp2
  go_ret
  refine ⟨?_, rfl⟩
  have e2 : j * 2 + 2 - j * 2 = 2 := by omega
  rw [e2]
  rfl

end Go.Proofs.Ytcnnojfkpkmdmaa
