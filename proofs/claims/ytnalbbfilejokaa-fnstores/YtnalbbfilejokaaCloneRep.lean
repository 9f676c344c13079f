/- slices.Clone of numbers. Conditions: a list that reads as told, of a length that a machine can hold. -/
import Derived.Test.YtnalbbfilejokaaWayCopy
import Derived.Lib.SliceRun
namespace Go.Proofs.Ytnalbbfilejokaa
open Go.ChangeShapes Go.WideShapes Go.ChangeAt Go.RowKit
set_option linter.unusedVariables false

set_option maxRecDepth 100000 in
set_option maxHeartbeats 1000000 in
theorem clone_rep (a : Option Addr) (d : List Int) (cap : Nat) (w : World) (h : SlRd intR w a d) (hm : d.length ≤ 1048576) :
    Calls Try.prog 84 #[.slice a d.length cap] w fun e w' => ∃ av cv, e = .returned (.slice av d.length cv) ∧ MadeR intsR w w' [.slice av d.length cv] d := by
  cases a with
  | some ad =>
    obtain ⟨i0, hi, hz0, hz1, hz2⟩ := info_parts Try.infoI
    have hown : (w.alloc (.cells #[] 2)).ownsRow w.heap.size 2 1 (.slice (some ⟨w.heap.size, 0, none⟩) 0 0) 0 [] := World.ownsRow_lit _ #[] 0 (Nat.le_refl _) (Nat.zero_le _) rfl
    have HS : Hid (Reads w (some ad) d ∧ ∀ x ∈ d, In64 x) := ⟨reads_of h, in64_of h⟩
    have he := fun W => Go.Lib.run_eql_slice_nil (P := Try.prog) W 25 2 (some ad) d.length cap 0 0 Try.underlying25
    clear h
    go_enter Try.func84, Try.ntmps84
    go_wp2_with (at_builtin; refine wpList_append_own _ rfl _ _ 25 rfl w.heap.size 2 i0 (.int .i64 0) 1 8 Try.underlying25 hi hz0 hz1 hz2 rfl (by decide) _ _ _ rfl hown ad d.length cap (d.map (Value.int .i64)) rfl (by simp) ?c1 ?c2 ?c3 ?c4 ?c5 ?_)
    case c1 =>
      intro j u hj
      obtain ⟨hjl, rfl⟩ := List.getElem?_eq_some_iff.1 hj
      simp at hjl
      rcases HS.out.1 with rfl | ⟨b, off, ha, hc⟩
      · simp at hjl
      simp only [Option.some.injEq] at ha
      subst ha
      have g0 := hc j hjl
      have g1 := (World.cell?_of_block (w := w) (a := ⟨b, off + j, none⟩) (Below.heap_alloc w (.cells #[] 2) b (World.block_lt_of_cell? w _ g0))).trans g0
      rw [show (⟨b, off, none⟩ : Addr).add j = ⟨b, off + j, none⟩ from by simp [Addr.add], g1]
      simp [List.getD_eq_getElem?_getD, hjl]
    case c2 => intro u hu; simp at hu; obtain ⟨x, _, rfl⟩ := hu; rfl
    case c3 => unfold maxLen; omega
    case c4 => omega
    case c5 => simp
    · intro v' w1 hown' hgrow hnil
      have hv : v' ≠ .slice none 0 0 := hnil
      have hown'' : w1.ownsRow w.heap.size 2 1 v' d.length (d.map (Value.int .i64)) := by simpa using hown'
      have HO := madeR_ints (made_app (w := w) hown'' hgrow hv) HS.out.2
      obtain ⟨av, cv, rfl⟩ := slown_val HO.1
      have HH : Hid _ := HO
      clear HO hown' hgrow hnil hown hown'' hv
      go_wp2
      go_ret
      exact ⟨_, _, rfl, HH.out⟩
  | none =>
    obtain rfl : d = [] := by
      rcases h with h | ⟨b, off, rows, ha, _⟩
      · exact h
      · cases ha
    rw [show ([] : List Int).length = 0 from rfl]
    have he := fun W => Go.Lib.run_eql_slice_nil (P := Try.prog) W 25 2 none 0 cap 0 0 Try.underlying25
    go_enter Try.func84, Try.ntmps84
    go_wp2
    go_ret
    exact ⟨none, 0, rfl, own_nothing w _, Below.refl _ w⟩

end Go.Proofs.Ytnalbbfilejokaa
