
/- Plain facts on descs and programs, and on the cells of lists that read. No program in it. -/
import Derived.Test.YteblffhbennpnaaDoorProgFacts
import Derived.Test.YteblffhbennpnaaDoorSpread
namespace Go.Proofs.YteblffhbennpnaaDoor
open Go.ChangeShapes Go.WideShapes Go.ChangeAt Go.RowKit
set_option linter.unusedVariables false

theorem slrd_tail {w : World} {b off : Nat} {p : List OpD} {r : List (List OpD)} (h : SlRd opsR w (some ⟨b, off, none⟩) (p :: r)) : SlRd opsR w (some ⟨b, off + 1, none⟩) r := by
  rcases h with h | ⟨b', off', rows, e, ⟨c1, c2, e1, h1, h2⟩, h3⟩
  · simp at h
  · simp only [Option.some.injEq, Addr.mk.injEq, and_true] at e
    obtain ⟨rfl, rfl⟩ := e
    obtain ⟨a, cap, rfl, -⟩ := h1
    subst e1
    refine .inr ⟨b, off + 1, c2, rfl, h2, fun j u hj => ?_⟩
    rw [Nat.add_assoc, Nat.add_comm 1 j]
    exact h3 (j + 1) u (by simpa using hj)
theorem ops_val {w : World} {c : List Value} {x : List OpD} (h : opsR.rd w c x) : ∃ a cap, c = [.slice a x.length cap] := by
  obtain ⟨a, cap, rfl, -⟩ := h
  exact ⟨a, cap, rfl⟩
theorem slrd_nil {α : Type} {R : Rep α} {w : World} {xs : List α} (h : SlRd R w none xs) : xs = [] := by
  rcases h with h | ⟨b, off, rows, ha, _⟩
  · exact h
  · cases ha
theorem code_in {c s y l : Int} (h : codeI c s y l = 0) : In64 l := by
  have := (code_zero h).1
  exact ⟨by omega, by omega⟩
theorem rd_new {cl : Int} (h : In64 cl) (w : World) : descR.rd w [.bool false, .int .i64 cl, .int .i64 0, .slice none 0 0] (false, cl, 0, ([] : List Int)) :=
  ⟨[.bool false], _, rfl, rfl, [.int .i64 cl], _, rfl, ⟨rfl, h⟩, [.int .i64 0], _, rfl, ⟨rfl, (⟨by omega, by omega⟩ : In64 (0 : Int))⟩, ⟨none, 0, rfl, Nat.le_refl _, Nat.zero_le _, .inl rfl⟩⟩
theorem lrd_one {w : World} : ∀ {cs : List Value} {xs : List DescD}, lrd descR w cs xs → ∀ u ∈ cs, u.oneCell' = true
  | cs, [], h => by rw [show cs = [] from h]; simp
  | cs, x :: xs, ⟨c1, c2, e, h1, h2⟩ => by
    subst e
    obtain ⟨a, cap, rfl, -⟩ := desc_rd h1
    intro u hu
    rcases List.mem_append.1 hu with hu | hu
    · simp only [List.mem_cons, List.not_mem_nil, or_false] at hu
      rcases hu with rfl | rfl | rfl | rfl <;> rfl
    · exact lrd_one h2 u hu
theorem add_keep {w w' : World} {a : Addr} {u : Value} (hb : Below w.heap.size w w') (h : w.cell? a = some u) : w'.cell? a = some u := by
  rw [hb.cell (World.block_lt_of_cell? _ _ h)]
  exact h
/-- A desc of a line behind the last one is refused by its line, unless the list is too long. -/
theorem desc_push {c s y l : Int} {xs : List DescD} (h : codeI c s y l = 0) (hn : xs.length ≤ 30) (ha : ∀ u ∈ xs, descB u = true) : descI c s y l (xs ++ [(false, l, 0, ([] : List Int))]) = if xs.length = 30 then 2 else 4 := by
  unfold descI
  rw [if_pos h]
  by_cases h30 : xs.length = 30
  · rw [if_neg (by simp; omega), if_pos h30]
  · have h1 : (xs ++ [(false, l, 0, ([] : List Int))]).all descB = true := by
      rw [List.all_append, List.all_eq_true.2 ha]
      simp [descB]
    have h2 : (xs ++ [(false, l, 0, ([] : List Int))]).all (dlnOk l) = false := by
      rw [List.all_append]
      simp [dlnOk, betw]
      omega
    rw [if_pos (by simp; omega), if_neg h30, h1, h2]
    rfl
end Go.Proofs.YteblffhbennpnaaDoor
