
/- One way, copied; an empty one: of the program and of the specification. Conditions: lists of at most 2^20 numbers. -/
import Derived.Test.YtbcggkfbahmpoaaCopyInts
import Derived.Test.YtbcggkfbahmpoaaWays2
import Derived.Test.YtbcggkfbahmpoaaCacheFacts
namespace Go.Proofs.Ytbcggkfbahmpoaa
open Go.ChangeShapes Go.WideShapes Go.ChangeAt Go.RowKit
set_option linter.unusedVariables false


set_option maxHeartbeats 400000 in
theorem emptyWay_any (w : World) : Calls Try.prog 42 #[] w fun e w' => ∃ av cv, e = .returned (.agg #[.int .i64 (-1), .int .i64 0, .slice av 0 cv]) ∧ MadeR wayR w w' [.int .i64 (-1), .int .i64 0, .slice av 0 cv] emptyW := by
  have M := made_nothing (w.alloc (.cells #[.int .i64 (-1), .int .i64 0, .slice (some ⟨w.heap.size + 1, 0, none⟩) 0 0] 37))
  have X := heap_on (.cells #[] 2) (heap_at w (.cells #[.int .i64 (-1), .int .i64 0, .slice (some ⟨w.heap.size + 1, 0, none⟩) 0 0] 37))
  rw [alloc_len] at M
  obtain ⟨r0, r1, r2⟩ := cells_3 X
  go_enter Try.func42, Try.ntmps42
  go_wp2
  refine bodyPost_ret (v := .agg #[.int .i64 (-1), .int .i64 0, .slice (some ⟨w.heap.size + 1, 0, none⟩) 0 0]) (by simp [results, Try.results42, go_sem]) rfl ⟨_, _, rfl, own_way (by constructor <;> decide) (by constructor <;> decide) ?_, below_step (box_below w _) M.2⟩
  exact intsR.own_mono M.1 (rng_sub (by simp) (Nat.le_refl _))

theorem own_nothing (w : World) (S : Foot) : intsR.own w S [.slice none 0 0] [] := ⟨_, [], fun _ => False, rfl, World.ownsRow_nil _ _ _ _, fun g hg => by simp [Value.ownBlock] at hg, fun _ h => h.elim, rfl⟩
set_option maxHeartbeats 400000 in
theorem l6Empty_any (w : World) : Calls Try.prog 38 #[] w fun e w' => ∃ av cv, e = .returned (.agg #[.int .i64 (-1), .int .i64 0, .slice av 0 cv]) ∧ MadeR wayR w w' [.int .i64 (-1), .int .i64 0, .slice av 0 cv] emptyW := by
  go_enter Try.func38, Try.ntmps38
  go_wp2
  refine bodyPost_ret (v := .agg #[.int .i64 (-1), .int .i64 0, .slice none 0 0]) (by simp [results, Try.results38, go_sem]) rfl ⟨_, _, rfl, own_way (by constructor <;> decide) (by constructor <;> decide) (own_nothing _ _), box_below w _⟩



end Go.Proofs.Ytbcggkfbahmpoaa
