/- The contracts of Next, of the program and of its specification. No condition but that the numbers are int64's. -/
import Derived.Test.YtapooehfoihdlaaDoorTurns
import Derived.OwnWalk
namespace Go.Proofs.YtapooehfoihdlaaDoor
open Go.ChangeShapes Go.WideShapes Go.RowKit
open Go.Maps (Keyed)
set_option linter.unusedVariables false

def nextV (s e : Int) : Value := .tuple #[.int .i64 ((nextI s e).getD s), .bool (nextI s e).isSome]

set_option maxHeartbeats 400000 in
theorem implNext_any (s e : Int) (w : World) (hs : (Lit.int .i64 s).wf = true) (he : (Lit.int .i64 e).wf = true) :
    Calls Tryd.prog 12 #[.int .i64 s, .int .i64 e] w fun x w' => x = .returned (nextV s e) ∧ Below w.heap.size w w' := by
  obtain ⟨l, hl⟩ := tk_key hs he
  unfold nextV
  obtain ⟨o, ho⟩ : ∃ o, nextI s e = o := ⟨_, rfl⟩
  rw [ho]
  cases o
  all_goals
    simp only [Option.getD_none, Option.isSome_none, Option.getD_some, Option.isSome_some]
    go_enter Tryd.func12, Tryd.ntmps12
    go_wp2_with fail
    refine (turns_any _).mono ?_
    rintro _ w1 ⟨b, n, f, rfl, hb, hm, hf, B⟩
    have hlk := hm.look_ok turnKeyed Tryd.underlying53 Tryd.underlying2 (zero2 _) hl
    rw [hf, ho] at hlk
    simp only [Option.getD_none, Option.isSome_none, Option.getD_some, Option.isSome_some] at hlk
    go_wp2
    go_ret2
    exact ⟨rfl, B⟩

set_option maxHeartbeats 1000000 in
theorem specNext_any (s e : Int) (w : World) :
    Calls Tryd.prog 15 #[.int .i64 s, .int .i64 e] w fun x w' => x = .returned (nextV s e) ∧ w' = w := by
  by_cases hb : betw s 1 3 = true
  · have h3 : s = 1 ∨ s = 2 ∨ s = 3 := by simp [betw] at hb; omega
    by_cases e1 : e = 1
    · subst e1
      rcases h3 with rfl | rfl | rfl
      all_goals
        go_enter Tryd.func15, Tryd.ntmps15
        go_wp2_with fail
        refine (l1In_any _ _ _ _).mono ?_
        rintro _ w1 ⟨rfl, rfl⟩
        rw [hb]
        go_wp2
        go_ret2
        exact ⟨rfl, rfl⟩
    by_cases e2 : e = 2
    · subst e2
      rcases h3 with rfl | rfl | rfl
      all_goals
        go_enter Tryd.func15, Tryd.ntmps15
        go_wp2_with fail
        refine (l1In_any _ _ _ _).mono ?_
        rintro _ w1 ⟨rfl, rfl⟩
        rw [hb]
        go_wp2
        go_ret2
        exact ⟨rfl, rfl⟩
    by_cases e3 : e = 3
    · subst e3
      rcases h3 with rfl | rfl | rfl
      all_goals
        go_enter Tryd.func15, Tryd.ntmps15
        go_wp2_with fail
        refine (l1In_any _ _ _ _).mono ?_
        rintro _ w1 ⟨rfl, rfl⟩
        rw [hb]
        go_wp2
        go_ret2
        exact ⟨rfl, rfl⟩
    by_cases e4 : e = 4
    · subst e4
      rcases h3 with rfl | rfl | rfl
      all_goals
        go_enter Tryd.func15, Tryd.ntmps15
        go_wp2_with fail
        refine (l1In_any _ _ _ _).mono ?_
        rintro _ w1 ⟨rfl, rfl⟩
        rw [hb]
        go_wp2
        go_ret2
        exact ⟨rfl, rfl⟩
    by_cases e5 : e = 5
    · subst e5
      rcases h3 with rfl | rfl | rfl
      all_goals
        go_enter Tryd.func15, Tryd.ntmps15
        go_wp2_with fail
        refine (l1In_any _ _ _ _).mono ?_
        rintro _ w1 ⟨rfl, rfl⟩
        rw [hb]
        go_wp2
        go_ret2
        exact ⟨rfl, rfl⟩
    have hn : nextI s e = none := by
      unfold nextI
      rcases h3 with rfl | rfl | rfl <;> simp [e1, e2, e3, e4, e5]
    unfold nextV
    rw [hn]
    clear hn h3
    go_enter Tryd.func15, Tryd.ntmps15
    go_wp2_with fail
    refine (l1In_any _ _ _ _).mono ?_
    rintro _ w1 ⟨rfl, rfl⟩
    rw [hb]
    go_wp2
    go_ret2
    exact ⟨rfl, rfl⟩
  · have hb' : betw s 1 3 = false := by simpa using hb
    have hn : nextI s e = none := by
      unfold nextI
      rw [if_neg (by rintro rfl; exact hb rfl), if_neg (by rintro (rfl | rfl) <;> exact hb rfl)]
    unfold nextV
    rw [hn]
    clear hn hb
    go_enter Tryd.func15, Tryd.ntmps15
    go_wp2_with fail
    refine (l1In_any _ _ _ _).mono ?_
    rintro _ w1 ⟨rfl, rfl⟩
    rw [hb']
    go_wp2
    go_ret2
    exact ⟨rfl, rfl⟩
end Go.Proofs.YtapooehfoihdlaaDoor
