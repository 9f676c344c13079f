/- The contract of Masked, of the program: what it answers, in new memory. No condition. -/
import Derived.Test.YteepmhcpjjgihaaLines4
namespace Go.Proofs.Yteepmhcpjjgihaa
open Go.ChangeShapes Go.WideShapes Go.ChangeAt Go.RowKit

theorem reads_step {w w1 : World} {a : Option Addr} {xs : List Int} (h : Reads w a xs) (hb : Below w.heap.size w w1) (o : Obj) : Reads (w1.alloc o) a xs :=
  reads_below h (hb.alloc hb.size o)

set_option maxHeartbeats 1000000 in
theorem implMasked_no (a a2 : Option Addr) (xs ys : List Int) (cap cap2 : Nat) (m : Int) (w : World) (h : Reads w a xs) (h2 : Reads w a2 ys) (hn : (isL xs && isL ys && betw m 0 3) = false) :
    Calls Try.prog 56 #[.slice a xs.length cap, .slice a2 ys.length cap2, .int .i64 m] w fun e w' => ∃ v, e = .returned v ∧ Made w w' v [] := by
  have main : ∀ b1 b2 b3 : Bool, isL xs = b1 → isL ys = b2 → betw m 0 3 = b3 → (b1 && b2 && b3) = false →
      Calls Try.prog 56 #[.slice a xs.length cap, .slice a2 ys.length cap2, .int .i64 m] w fun e w' => ∃ v, e = .returned v ∧ Made w w' v [] := by
    intro b1 b2 b3 e1 e2 e3 e4
    cases b1 <;> cases b2 <;> cases b3
    case true.true.true => simp at e4
    all_goals
      go_enter Try.func56, Try.ntmps56
      go_wp2_with fail
      refine (wordsOf_any _ xs _ _ h).mono ?_
      rintro e w1 ⟨x, y, rfl, b1⟩
      rw [e1]
      have h3 := reads_step h2 b1 (.cells #[.int .i64 x, .int .i64 y] 68)
      go_wp2_with fail
      refine (wordsOf_any _ ys _ _ h3).mono ?_
      rintro e w2 ⟨x2, y2, rfl, b2⟩
      rw [e2]
      have B := below_step (b1.alloc b1.size _) b2
      clear h3 b1 b2
      go_wp2_with (go_at_call 61; refine (maskOk_any _ _).mono ?_; rintro e w' ⟨rfl, rfl⟩; rw [e3])
      go_ret
      exact ⟨_, rfl, made_step (B.alloc B.size _) (made_none _ _ (by simp))⟩
  exact main _ _ _ rfl rfl rfl hn

set_option maxHeartbeats 1000000 in
theorem implMasked_yes (a a2 : Option Addr) (x y x2 y2 : Int) (cap cap2 : Nat) (m : Int) (w : World) (h : Reads w a [x, y]) (h2 : Reads w a2 [x2, y2])
    (hx : okW x = true) (hy : okW y = true) (hx2 : okW x2 = true) (hy2 : okW y2 = true) (hm : betw m 0 3 = true) :
    Calls Try.prog 56 #[.slice a 2 cap, .slice a2 2 cap2, .int .i64 m] w fun e w' => ∃ v, e = .returned v ∧ Made w w' v (maskL [x, y] [x2, y2] m) := by
  have HM : Hid (maskL [x, y] [x2, y2] m = [if m % 2 = 1 then x2 else x, if m / 2 % 2 = 1 then y2 else y]) := by
    unfold Hid maskL; simp [isL_yes hx hy, isL_yes hx2 hy2, hm]
  have main : ∀ c0 c1 : Bool, inB m 0 = c0 → inB m 1 = c1 → [if c0 then x2 else x, if c1 then y2 else y] = [if m % 2 = 1 then x2 else x, if m / 2 % 2 = 1 then y2 else y] →
      Calls Try.prog 56 #[.slice a 2 cap, .slice a2 2 cap2, .int .i64 m] w fun e w' => ∃ v, e = .returned v ∧ Made w w' v (maskL [x, y] [x2, y2] m) := by
    intro c0 c1 e0 e1 he
    have HE : Hid _ := he
    clear he
    cases c0 <;> cases c1
    all_goals
      go_enter Try.func56, Try.ntmps56
      go_wp2_with fail
      refine (wordsOf_yes _ x y _ _ h hx hy).mono ?_
      rintro e w1 ⟨rfl, b1⟩
      have h3 := reads_step h2 b1 (.cells #[.int .i64 x, .int .i64 y] 68)
      go_wp2_with fail
      refine (wordsOf_yes _ x2 y2 _ _ h3 hx2 hy2).mono ?_
      rintro e w2 ⟨rfl, b2⟩
      have R := row_keep b2 (heap_alloc_new w1 (.cells #[.int .i64 x, .int .i64 y] 68))
      have hb1 := b1.size
      have B := below_step (b1.alloc b1.size _) b2
      have hlt : w1.heap.size < w2.heap.size := (Array.getElem?_eq_some_iff.1 R).1
      clear h3 b1 b2
      go_wp2_with (go_at_call 61; refine (maskOk_any _ _).mono ?_; rintro e w' ⟨rfl, rfl⟩)
      have R2 := (Below.heap_alloc w2 (.cells #[.int .i64 x2, .int .i64 y2] 68) _ hlt).trans R
      have F := heap_alloc_new w2 (.cells #[.int .i64 x2, .int .i64 y2] 68)
      have B2 := B.alloc B.size (.cells #[.int .i64 x2, .int .i64 y2] 68)
      have hne : w1.heap.size ≠ w2.heap.size := by omega
      have hlo : w.heap.size ≤ w1.heap.size := hb1
      clear R B hlt
      generalize w2.alloc (.cells #[.int .i64 x2, .int .i64 y2] 68) = W at R2 F B2 ⊢
      generalize w2.heap.size = g2 at F hne ⊢
      generalize w1.heap.size = g1 at R2 hne hlo ⊢
      obtain ⟨q0, q1⟩ := cell_two R2
      obtain ⟨f0, f1⟩ := froz_two R2
      obtain ⟨y0, y1⟩ := cell_two F
      refine wp_loop_rounds 3 ?_
      rw [rounds_succ]
      go_wp2_with (go_at_call 62; refine (implIn_any _ _ _).mono ?_; rintro e w' ⟨rfl, rfl⟩)
      rw [rounds_succ]
      go_wp2_with (go_at_call 62; refine (implIn_any _ _ _).mono ?_; rintro e w' ⟨rfl, rfl⟩)
      rw [rounds_succ]
      go_wp2_with (go_at_call 63; refine (twoList_any _ _ _).mono ?_; rintro e w3 ⟨v, rfl, m3⟩)
      go_ret
      rw [HM.out, ← HE.out]
      first | exact ⟨_, rfl, made_step B2 m3⟩ | exact ⟨_, rfl, made_step (B2.setCell hlo _) m3⟩ | exact ⟨_, rfl, made_step ((B2.setCell hlo _).setCell hlo _) m3⟩
  rcases betw_four hm with rfl | rfl | rfl | rfl
  · exact main false false (by decide +kernel) (by decide +kernel) rfl
  · exact main true false (by decide +kernel) (by decide +kernel) rfl
  · exact main false true (by decide +kernel) (by decide +kernel) rfl
  · exact main true true (by decide +kernel) (by decide +kernel) rfl

theorem implMasked_any (a a2 : Option Addr) (xs ys : List Int) (cap cap2 : Nat) (m : Int) (w : World) (h : Reads w a xs) (h2 : Reads w a2 ys) :
    Calls Try.prog 56 #[.slice a xs.length cap, .slice a2 ys.length cap2, .int .i64 m] w fun e w' => ∃ v, e = .returned v ∧ Made w w' v (maskL xs ys m) := by
  by_cases hn : (isL xs && isL ys && betw m 0 3) = false
  · have e : maskL xs ys m = [] := by unfold maskL; rw [hn]; rfl
    rw [e]
    exact implMasked_no a a2 xs ys cap cap2 m w h h2 hn
  · rcases isL_cases xs with h1 | ⟨x, y, rfl, hx, hy⟩
    · simp [h1] at hn
    rcases isL_cases ys with h1 | ⟨x2, y2, rfl, hx2, hy2⟩
    · simp [h1] at hn
    cases hm : betw m 0 3
    · simp [hm] at hn
    exact implMasked_yes a a2 x y x2 y2 cap cap2 m w h h2 hx hy hx2 hy2 hm

end Go.Proofs.Yteepmhcpjjgihaa
