
/- Who holds a line by its entry, of the specification. Condition: an entry whose owner and sharers are right. -/
import Derived.Test.YtcnnojfkpkmdmaaEntOk
import Derived.Test.YtcnnojfkpkmdmaaPages
import Derived.Test.YtcnnojfkpkmdmaaPutL
namespace Go.Proofs.Ytcnnojfkpkmdmaa
open Go.ChangeShapes Go.WideShapes Go.ChangeAt Go.RowKit
set_option linter.unusedVariables false

set_option maxHeartbeats 2000000 in
theorem l10Holders_any (o s k f l m : Int) (b : Bool) (d : List Int) (a : Option Addr) (cap : Nat) (w : World) (hw : whoB o s = true) :
    Calls Try.prog 40 #[.agg #[.int .i64 o, .int .i64 s, .bool b, .int .i64 k, .int .i64 f, .int .i64 l, .int .i64 m, .slice a d.length cap]] w fun e w' => ∃ v, e = .returned v ∧ Made w w' v (hoI o s) := by
  have X := heap_at w (.cells #[.int .i64 o, .int .i64 s, .bool b, .int .i64 k, .int .i64 f, .int .i64 l, .int .i64 m, .slice a d.length cap] 48)
  have B := box_below w (.cells #[.int .i64 o, .int .i64 s, .bool b, .int .i64 k, .int .i64 f, .int .i64 l, .int .i64 m, .slice a d.length cap] 48)
  by_cases ho : 0 ≤ o
  · have hs := who_alone hw ho
    subst hs
    have HV : Hid (hoI o 0 = [o]) := if_pos ho
    go_enter Try.func40, Try.ntmps40
    go_wp2_with fail
    generalize w.alloc (.cells #[.int .i64 o, .int .i64 0, .bool b, .int .i64 k, .int .i64 f, .int .i64 l, .int .i64 m, .slice a d.length cap] 48) = W0 at X B ⊢
    refine (specMembers_any _ _).mono ?_
    rintro e w1 ⟨g, c, rfl, h1, h2, h3, h4⟩
    rw [mems_zero] at h3 ⊢
    replace X := row_keep h4 X
    replace B := below_step B h4
    obtain ⟨x0, x1, x2, x3, x4, x5, x6, x7⟩ := cells_8 X
    obtain ⟨g', c', e', _, _, hn1, hn2⟩ := own_shape h3 (by simp)
    simp only [Value.slice.injEq, Option.some.injEq, Addr.mk.injEq, and_true, true_and] at e'
    obtain ⟨rfl, rfl⟩ := e'
    have HP : Hid (Calls Try.prog 57 #[.slice (some ⟨g, 0, none⟩) ([] : List Int).length c, .int .i64 o] w1 fun e w' => ∃ v, e = .returned v ∧ Made w1 w' v [o]) := (l1Put_any g 0 [] c o w1 (fun j hj => by simp at hj) (by simp) (by simp) hn2).mono fun e w' h => by
      rcases h with ⟨_, _, q⟩ | h
      · cases q
      · exact h
    clear h1 h2 h3 h4 hn1 hn2 X x1 x2 x3 x4 x5 x6 x7
    go_wp2_with (go_at_call 57; refine HP.out.mono ?_; rintro e w2 ⟨v, rfl, mm⟩; have HM : Hid (Made w w2 v (hoI o 0)) := (HV.out ▸ made_step B mm); clear mm)
    go_ret
    exact ⟨_, rfl, HM.out⟩
  · have HV : Hid (hoI o s = mems s 8) := if_neg ho
    go_enter Try.func40, Try.ntmps40
    go_wp2_with fail
    generalize w.alloc (.cells #[.int .i64 o, .int .i64 s, .bool b, .int .i64 k, .int .i64 f, .int .i64 l, .int .i64 m, .slice a d.length cap] 48) = W0 at X B ⊢
    refine (specMembers_any _ _).mono ?_
    rintro e w1 ⟨g, c, rfl, h1, h2, h3, h4⟩
    have M : Hid (Made w w1 (.slice (some ⟨g, 0, none⟩) (mems s 8).length c) (hoI o s)) := by
      unfold Hid
      rw [HV.out]
      exact made_step B ⟨g, c, rfl, h1, h2, h3, h4⟩
    replace X := row_keep h4 X
    obtain ⟨x0, x1, x2, x3, x4, x5, x6, x7⟩ := cells_8 X
    clear h1 h2 h3 h4 X B
    go_wp2
    go_ret
    exact ⟨_, rfl, M.out⟩

end Go.Proofs.Ytcnnojfkpkmdmaa
