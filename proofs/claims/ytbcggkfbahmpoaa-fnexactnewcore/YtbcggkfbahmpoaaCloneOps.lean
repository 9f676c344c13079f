
/- Lists of ops laid anew: slices.Clone, and append to a new list. Conditions: a list that reads as told, of a length that a machine can hold. -/
import Derived.Test.YtbcggkfbahmpoaaJLines6OpsOpLLinesOk
import Derived.Test.YtbcggkfbahmpoaaCloneRep
import Derived.Test.YtbcggkfbahmpoaaSpread
import Derived.Lib.SliceRun
namespace Go.Proofs.Ytbcggkfbahmpoaa
open Go.ChangeShapes Go.WideShapes Go.ChangeAt Go.RowKit
set_option linter.unusedVariables false

theorem Try.infoOps : (Try.prog.info? 58).map (fun i => (i.zero, i.size, i.bytes)) = some (some (.agg #[.int .i64 0, .int .i64 0, .int .i64 0, .int .i64 0]), 4, 32) := by kernel_rfl
theorem rows_ops {w w' : World} {S : Foot} : ∀ {rows : List Value} {xs : List OpD}, lrd opR w rows xs → lown opR w' S rows xs ∧ (∀ u ∈ rows, u.oneCell' = true) ∧ rows.length = xs.length * 4
  | rows, [], h => by
    have : rows = [] := h
    subst this
    exact ⟨rfl, by simp, rfl⟩
  | rows, x :: r, h => by
    obtain ⟨c1, c2, rfl, h1, h2⟩ := h
    obtain ⟨q1, q2, q3⟩ := rows_ops (w' := w') (S := S) h2
    obtain ⟨rfl, h4⟩ := op_rd h1
    refine ⟨⟨_, c2, fun _ => False, S, rfl, own_op h4, q1, fun _ h => h.elim, Sub.refl _, fun _ h _ => h⟩, ?_, ?_⟩
    · intro u hu
      rcases List.mem_append.1 hu with hu | hu
      · simp only [List.mem_cons, List.not_mem_nil, or_false] at hu
        rcases hu with rfl | rfl | rfl | rfl <;> rfl
      · exact q2 u hu
    · rw [List.length_append, q3]
      simp
      omega
theorem made_ops {w w0 w1 : World} {v' : Value} {o : Obj} {rows : List Value} {xs : List OpD} (hr : lrd opR w0 rows xs) (h : w1.ownsRow w.heap.size 58 4 v' xs.length rows)
    (hg : (w.alloc o).grownBy w1 (Value.slice (some ⟨w.heap.size, 0, none⟩) 0 0).ownBlock) (hv : v' ≠ .slice none 0 0) : MadeR opsR w w1 [v'] xs := by
  obtain ⟨q1, q2, q3⟩ := rows_ops (w' := w1) (S := fun _ => False) hr
  have hb : Below w.heap.size w w1 := ((Below.refl _ _).alloc (Nat.le_refl _) _).grown hg (by simp) (by
    intro r hr
    simp [Value.ownBlock] at hr
    omega)
  refine ⟨⟨v', rows, fun _ => False, rfl, row_base h (fun _ _ => Nat.zero_le _), fun g hg' => ⟨?_, fun h => h⟩, fun _ h => h.elim, q1⟩, hb⟩
  exact World.ownsRow.lt h g hg'
set_option maxRecDepth 100000 in
set_option maxHeartbeats 1000000 in
theorem clone_ops (v : Value) (d : List OpD) (w : World) (h : opsR.rd w [v] d) (hm : d.length ≤ 1048576) :
    Calls Try.prog 41 #[v] w fun e w' => ∃ v', e = .returned v' ∧ MadeR opsR w w' [v'] d := by
  obtain ⟨a, cap, e0, l1, l2, hs⟩ := h
  simp only [List.cons.injEq, and_true] at e0
  subst e0
  cases a with
  | some ad =>
    obtain ⟨rows, hr, hc⟩ := slrd_rows hs
    obtain ⟨q1, q2, q3⟩ := rows_ops (w' := w) (S := fun _ => False) hr
    obtain ⟨i0, hi, hz0, hz1, hz2⟩ := info_parts Try.infoOps
    have hown : (w.alloc (.cells #[] 58)).ownsRow w.heap.size 58 4 (.slice (some ⟨w.heap.size, 0, none⟩) 0 0) 0 [] := World.ownsRow_lit _ #[] 0 (Nat.le_refl _) (Nat.zero_le _) rfl
    have HR : Hid (lrd opR w rows d) := hr
    have he := fun W => Go.Lib.run_eql_slice_nil (P := Try.prog) W 36 58 (some ad) d.length cap 0 0 Try.underlying36
    have HC : Hid (∀ j u, rows[j]? = some u → (w.alloc (.cells #[] 58)).cell? (ad.add j) = some u) := fun j u hj => by
      have g0 := hc j u hj
      exact (World.cell?_of_block (Below.heap_alloc w (.cells #[] 58) _ (World.block_lt_of_cell? w _ g0))).trans g0
    clear hs hr q1 hc
    go_enter Try.func41, Try.ntmps41
    go_wp2_with (at_builtin; refine wpList_append_own _ rfl _ _ 36 rfl w.heap.size 58 i0 (.agg #[.int .i64 0, .int .i64 0, .int .i64 0, .int .i64 0]) 4 32 Try.underlying36 hi hz0 hz1 hz2 rfl (by decide) _ _ _ rfl hown ad d.length cap rows rfl q3 HC.out q2 ?c3 ?c4 ?c5 ?_)
    case c3 => unfold maxLen; omega
    case c4 => omega
    case c5 => simp
    · intro v' w1 hown' hgrow hnil
      have hv : v' ≠ .slice none 0 0 := hnil
      have hown'' : w1.ownsRow w.heap.size 58 4 v' d.length rows := by simpa using hown'
      have HH : Hid _ := made_ops (w := w) HR.out hown'' hgrow hv
      clear hown' hgrow hnil hown hown'' hv
      go_wp2
      go_ret
      exact ⟨_, rfl, HH.out⟩
  | none =>
    obtain rfl : d = [] := by
      rcases hs with h | ⟨b, off, rows, ha, _⟩
      · exact h
      · cases ha
    rw [show ([] : List OpD).length = 0 from rfl]
    have he := fun W => Go.Lib.run_eql_slice_nil (P := Try.prog) W 36 58 none 0 cap 0 0 Try.underlying36
    go_enter Try.func41, Try.ntmps41
    go_wp2
    go_ret
    exact ⟨_, rfl, ⟨_, [], fun _ => False, rfl, World.ownsRow_nil _ _ _ _, fun g hg => by simp [Value.ownBlock] at hg, fun _ h => h.elim, rfl⟩, Below.refl _ w⟩
end Go.Proofs.Ytbcggkfbahmpoaa
