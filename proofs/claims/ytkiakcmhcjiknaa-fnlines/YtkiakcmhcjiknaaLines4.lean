/- The contracts of Put and Masked, of the program: what they answer, in new memory. No condition. -/
import Derived.Test.YtkiakcmhcjiknaaLines3
namespace Go.Proofs.Ytkiakcmhcjiknaa
open Go.ChangeShapes Go.WideShapes Go.ChangeAt Go.RowKit

theorem made_none (w : World) (k : Nat) (h : k = w.heap.size) : Made w (w.alloc (.cells #[] 2)) (.slice (some ⟨k, 0, none⟩) 0 0) [] := by
  subst h
  exact made_lit w #[] [] rfl (Nat.zero_le _)

set_option maxHeartbeats 1000000 in
theorem implPut_any (a : Option Addr) (xs : List Int) (cap : Nat) (k u : Int) (w : World) (h : Reads w a xs) :
    Calls Try.prog 10 #[.slice a xs.length cap, .int .i64 k, .int .i64 u] w fun e w' => ∃ v, e = .returned (.tuple #[v, .bool (putB xs k u)]) ∧ Made w w' v (putL xs k u) := by
  rcases isL_cases xs with hn | ⟨x, y, rfl, hx, hy⟩
  · have H : Hid (putL xs k u = [] ∧ putB xs k u = false) := by unfold Hid putL putB; simp [hn]
    go_enter Try.func10, Try.ntmps10
    go_wp2_with fail
    refine (wordsOf_no _ xs _ _ h hn).mono ?_
    rintro e w1 ⟨x, y, rfl, b1⟩
    go_wp2
    refine bodyPost_ret (v := .tuple #[.slice (some ⟨w1.heap.size + 1, 0, none⟩) 0 0, .bool false]) (by simp [results, Try.results10, go_sem]) rfl ?_
    rw [H.out.1, H.out.2]
    exact ⟨_, rfl, made_step (b1.alloc b1.size _) (made_none _ _ (by simp))⟩
  · have hh := isL_yes hx hy
    have HB : Hid (putB [x, y] k u = (betw k 0 1 && okW u)) := by unfold Hid putB; simp [hh]
    cases hk : betw k 0 1
    · have H : Hid (putL [x, y] k u = [x, y]) := by unfold Hid putL; simp [hk, hh]
      go_enter Try.func10, Try.ntmps10
      go_wp2_with fail
      refine (wordsOf_yes _ x y _ _ h hx hy).mono ?_
      rintro e w1 ⟨rfl, b1⟩
      go_wp2_with (first
        | (go_at_call 31; refine (wordOk_any _ _).mono ?_; rintro e w' ⟨rfl, rfl⟩)
        | (go_at_call 33; refine (twoList_any _ _ _).mono ?_; rintro e w2 ⟨v, rfl, m2⟩))
      refine bodyPost_ret (v := .tuple #[v, .bool false]) (by simp [results, Try.results10, go_sem]) rfl ?_
      rw [H.out, HB.out, hk, Bool.false_and]
      exact ⟨_, rfl, made_step (b1.alloc b1.size _) m2⟩
    · cases hu : okW u
      · have H : Hid (putL [x, y] k u = [x, y]) := by unfold Hid putL; simp [hk, hh, hu]
        go_enter Try.func10, Try.ntmps10
        go_wp2_with fail
        refine (wordsOf_yes _ x y _ _ h hx hy).mono ?_
        rintro e w1 ⟨rfl, b1⟩
        go_wp2_with (first
          | (go_at_call 31; refine (wordOk_any _ _).mono ?_; rintro e w' ⟨rfl, rfl⟩)
          | (go_at_call 32; refine (valueOk_any _ _).mono ?_; rintro e w' ⟨rfl, rfl⟩)
          | (go_at_call 33; refine (twoList_any _ _ _).mono ?_; rintro e w2 ⟨v, rfl, m2⟩))
        refine bodyPost_ret (v := .tuple #[v, .bool false]) (by simp [results, Try.results10, go_sem]) rfl ?_
        rw [H.out, HB.out, hu, Bool.and_false]
        exact ⟨_, rfl, made_step (b1.alloc b1.size _) m2⟩
      · rcases betw_two hk with rfl | rfl
        · have H : Hid (putL [x, y] 0 u = [u, y]) := by unfold Hid putL; simp [hk, hh, hu]
          go_enter Try.func10, Try.ntmps10
          go_wp2_with fail
          refine (wordsOf_yes _ x y _ _ h hx hy).mono ?_
          rintro e w1 ⟨rfl, b1⟩
          go_wp2_with (first
            | (go_at_call 31; refine (wordOk_any _ _).mono ?_; rintro e w' ⟨rfl, rfl⟩)
            | (go_at_call 32; refine (valueOk_any _ _).mono ?_; rintro e w' ⟨rfl, rfl⟩)
            | (go_at_call 33; refine (twoList_any _ _ _).mono ?_; rintro e w2 ⟨v, rfl, m2⟩))
          refine bodyPost_ret (v := .tuple #[v, .bool true]) (by simp [results, Try.results10, go_sem]) rfl ?_
          rw [H.out, HB.out, hk, hu]
          exact ⟨_, rfl, made_step (b1.alloc b1.size _) m2⟩
        · have H : Hid (putL [x, y] 1 u = [x, u]) := by unfold Hid putL; simp [hk, hh, hu]
          go_enter Try.func10, Try.ntmps10
          go_wp2_with fail
          refine (wordsOf_yes _ x y _ _ h hx hy).mono ?_
          rintro e w1 ⟨rfl, b1⟩
          go_wp2_with (first
            | (go_at_call 31; refine (wordOk_any _ _).mono ?_; rintro e w' ⟨rfl, rfl⟩)
            | (go_at_call 32; refine (valueOk_any _ _).mono ?_; rintro e w' ⟨rfl, rfl⟩)
            | (go_at_call 33; refine (twoList_any _ _ _).mono ?_; rintro e w2 ⟨v, rfl, m2⟩))
          refine bodyPost_ret (v := .tuple #[v, .bool true]) (by simp [results, Try.results10, go_sem]) rfl ?_
          rw [H.out, HB.out, hk, hu]
          exact ⟨_, rfl, made_step (b1.alloc b1.size _) m2⟩

end Go.Proofs.Ytkiakcmhcjiknaa
