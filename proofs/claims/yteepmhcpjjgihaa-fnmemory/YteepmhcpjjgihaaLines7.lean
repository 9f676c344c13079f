/- The contract of Masked, of the specification: what it answers, in new memory. No condition. -/
import Derived.Test.YteepmhcpjjgihaaLines5
import Derived.Test.YteepmhcpjjgihaaLines6
namespace Go.Proofs.Yteepmhcpjjgihaa
open Go.ChangeShapes Go.WideShapes Go.ChangeAt Go.RowKit

theorem made_put2 {w w1 : World} {g cap : Nat} {zs : List Int} (h : OwnI w.heap.size w1 g cap zs) (hb : Below w.heap.size w w1) (k k2 : Nat) (u u2 : Int) :
    Made w ((w1.setCell ⟨g, k, none⟩ (.int .i64 u)).setCell ⟨g, k2, none⟩ (.int .i64 u2)) (.slice (some ⟨g, 0, none⟩) zs.length cap) ((zs.set k u).set k2 u2) := by
  obtain ⟨g1, c1, e1, _, _, o1, b1⟩ := made_put h hb k u
  simp only [List.length_set, Value.slice.injEq, Option.some.injEq, Addr.mk.injEq, and_true, true_and] at e1
  obtain ⟨rfl, rfl⟩ := e1
  have M := made_put o1 b1 k2 u2
  rw [List.length_set] at M
  exact M

set_option maxHeartbeats 1000000 in
theorem l3Masked_any (a a2 : Option Addr) (x y x2 y2 : Int) (cap cap2 : Nat) (m : Int) (w : World) (h : Reads w a [x, y]) (h2 : Reads w a2 [x2, y2])
    (hx : okW x = true) (hy : okW y = true) (hx2 : okW x2 = true) (hy2 : okW y2 = true) (hm : betw m 0 3 = true) :
    Calls Try.prog 46 #[.slice a 2 cap, .slice a2 2 cap2, .int .i64 m] w fun e w' => ∃ v, e = .returned v ∧ Made w w' v (maskL [x, y] [x2, y2] m) := by
  have HM : Hid (maskL [x, y] [x2, y2] m = [if m % 2 = 1 then x2 else x, if m / 2 % 2 = 1 then y2 else y]) := by
    unfold Hid maskL; simp [isL_yes hx hy, isL_yes hx2 hy2, hm]
  clear hx hy hx2 hy2
  obtain ⟨b, off, rfl, -⟩ := reads_two h
  have h' := h2
  obtain ⟨b2, off2, rfl, k0, -⟩ := reads_two h2
  rcases betw_four hm with rfl | rfl | rfl | rfl
  all_goals
    have HM2 := HM.out
    simp at HM2
    have HM3 : Hid _ := HM2
    clear HM HM2
    have hb2 : b2 < w.heap.size := World.block_lt_of_cell? w ⟨b2, off2, none⟩ k0
    go_enter Try.func46, Try.ntmps46
    go_wp2_with fail
    refine (l1Copy_any _ [x, y] _ _ h (by simp)).mono ?_
    rintro e w1 ⟨v, rfl, g, cg, rfl, l1, l1', o1, b1⟩
    obtain ⟨c0, c1, f0, f1⟩ := owni_cells o1
    obtain ⟨_, _, e2, d0, d1⟩ := reads_two (reads_below h' b1)
    simp only [Option.some.injEq, Addr.mk.injEq, and_true] at e2
    obtain ⟨rfl, rfl⟩ := e2
    have hne : b2 ≠ g := by omega
    go_wp2_with fail
    refine wp_loop_rounds 3 ?_
    rw [rounds_succ]
    go_wp2_with fail
    rw [rounds_succ]
    go_wp2_with fail
    rw [rounds_succ]
    go_wp2_with fail
    go_ret
    rw [HM3.out]
    first
      | exact ⟨_, rfl, g, cg, rfl, l1, l1', o1, b1⟩
      | exact ⟨_, rfl, made_put o1 b1 0 x2⟩
      | exact ⟨_, rfl, made_put o1 b1 1 y2⟩
      | exact ⟨_, rfl, made_put2 o1 b1 0 1 x2 y2⟩

set_option maxHeartbeats 1000000 in
theorem specMasked_no (a a2 : Option Addr) (xs ys : List Int) (cap cap2 : Nat) (m : Int) (w : World) (h : Reads w a xs) (h2 : Reads w a2 ys) (hn : (isL xs && isL ys && betw m 0 3) = false) :
    Calls Try.prog 22 #[.slice a xs.length cap, .slice a2 ys.length cap2, .int .i64 m] w fun e w' => ∃ v, e = .returned v ∧ Made w w' v [] := by
  have main : ∀ b1 b2 b3 : Bool, isL xs = b1 → isL ys = b2 → betw m 0 3 = b3 → (b1 && b2 && b3) = false →
      Calls Try.prog 22 #[.slice a xs.length cap, .slice a2 ys.length cap2, .int .i64 m] w fun e w' => ∃ v, e = .returned v ∧ Made w w' v [] := by
    intro b1 b2 b3 e1 e2 e3 e4
    have K1 : Calls Try.prog 44 #[.slice a xs.length cap] w fun e w' => e = .returned (.bool b1) ∧ w' = w := e1 ▸ specLineOk_any a xs cap w h
    have K2 : Calls Try.prog 44 #[.slice a2 ys.length cap2] w fun e w' => e = .returned (.bool b2) ∧ w' = w := e2 ▸ specLineOk_any a2 ys cap2 w h2
    clear h h2 e1 e2
    cases b1 <;> cases b2 <;> cases b3
    case true.true.true => simp at e4
    all_goals
      go_enter Try.func22, Try.ntmps22
      go_wp2_with (first
        | (go_at_call_of 44 a; refine K1.mono ?_; rintro e w' ⟨rfl, rfl⟩)
        | (go_at_call_of 44 a2; refine K2.mono ?_; rintro e w' ⟨rfl, rfl⟩)
        | (go_at_call 45; refine (l1In_any _ _ _ _).mono ?_; rintro e w' ⟨rfl, rfl⟩))
      go_ret
      exact ⟨_, rfl, made_lit _ #[] [] rfl (Nat.zero_le _)⟩
  exact main _ _ _ rfl rfl rfl hn

set_option maxHeartbeats 1000000 in
theorem specMasked_yes (a a2 : Option Addr) (x y x2 y2 : Int) (cap cap2 : Nat) (m : Int) (w : World) (h : Reads w a [x, y]) (h2 : Reads w a2 [x2, y2])
    (hx : okW x = true) (hy : okW y = true) (hx2 : okW x2 = true) (hy2 : okW y2 = true) (hm : betw m 0 3 = true) :
    Calls Try.prog 22 #[.slice a 2 cap, .slice a2 2 cap2, .int .i64 m] w fun e w' => ∃ v, e = .returned v ∧ Made w w' v (maskL [x, y] [x2, y2] m) := by
  go_enter Try.func22, Try.ntmps22
  go_wp2_with (first
    | (go_at_call_of 44 a; refine (specLineOk_yes _ _ _ _ _ h hx hy).mono ?_; rintro e w' ⟨rfl, rfl⟩)
    | (go_at_call_of 44 a2; refine (specLineOk_yes _ _ _ _ _ h2 hx2 hy2).mono ?_; rintro e w' ⟨rfl, rfl⟩)
    | (go_at_call 45; refine (l1In_any _ _ _ _).mono ?_; rintro e w' ⟨rfl, rfl⟩)
    | (go_at_call 46; refine (l3Masked_any _ _ _ _ _ _ _ _ _ _ h h2 hx hy hx2 hy2 hm).mono ?_; rintro e w1 ⟨v, rfl, m1⟩))
  go_ret
  exact ⟨_, rfl, m1⟩

theorem specMasked_any (a a2 : Option Addr) (xs ys : List Int) (cap cap2 : Nat) (m : Int) (w : World) (h : Reads w a xs) (h2 : Reads w a2 ys) :
    Calls Try.prog 22 #[.slice a xs.length cap, .slice a2 ys.length cap2, .int .i64 m] w fun e w' => ∃ v, e = .returned v ∧ Made w w' v (maskL xs ys m) := by
  by_cases hn : (isL xs && isL ys && betw m 0 3) = false
  · have e : maskL xs ys m = [] := by unfold maskL; rw [hn]; rfl
    rw [e]
    exact specMasked_no a a2 xs ys cap cap2 m w h h2 hn
  · rcases isL_cases xs with h1 | ⟨x, y, rfl, hx, hy⟩
    · simp [h1] at hn
    rcases isL_cases ys with h1 | ⟨x2, y2, rfl, hx2, hy2⟩
    · simp [h1] at hn
    cases hm : betw m 0 3
    · simp [hm] at hn
    exact specMasked_yes a a2 x y x2 y2 cap cap2 m w h h2 hx hy hx2 hy2 hm

end Go.Proofs.Yteepmhcpjjgihaa
