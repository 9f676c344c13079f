/- The contracts of lines, of the specification: what LineOk, WordAt, Put and Masked answer; lists are new memory. Conditions: lists of at most 2^20 numbers. -/
import Derived.Test.YtkiakcmhcjiknaaLines3
namespace Go.Proofs.Ytkiakcmhcjiknaa
open Go.ChangeShapes Go.WideShapes Go.ChangeAt Go.RowKit

set_option maxHeartbeats 400000 in
theorem l3Word_any (k : Int) (w : World) : Calls Try.prog 38 #[.int .i64 k] w fun e w' => e = .returned (.bool (okW k)) ∧ w' = w := by
  go_enter Try.func38, Try.ntmps38
  go_wp2_with (go_at_call 37; refine (l1In_any _ _ _ _).mono ?_; rintro e w' ⟨rfl, rfl⟩)
  go_ret
  exact ⟨rfl, rfl⟩

set_option maxHeartbeats 400000 in
theorem specLineOk_not (a : Option Addr) (n cap : Nat) (w : World) (hn : n ≠ 2) :
    Calls Try.prog 20 #[.slice a n cap] w fun e w' => e = .returned (.bool false) ∧ w' = w := by
  have hn' : ((n : Int) == 2) = false := by simp; omega
  go_enter Try.func20, Try.ntmps20
  go_wp2
  go_ret
  exact ⟨rfl, rfl⟩

set_option maxHeartbeats 400000 in
theorem specLineOk_two (a : Option Addr) (x y : Int) (cap : Nat) (w : World) (h : Reads w a [x, y]) :
    Calls Try.prog 20 #[.slice a 2 cap] w fun e w' => e = .returned (.bool (okW x && okW y)) ∧ w' = w := by
  obtain ⟨b, off, rfl, c0, c1⟩ := reads_two h
  clear h
  cases hx : okW x <;> cases hy : okW y
  all_goals
    go_enter Try.func20, Try.ntmps20
    go_wp2_with (go_at_call 38; refine (l3Word_any _ _).mono ?_; rintro e w' ⟨rfl, rfl⟩)
    go_ret
    exact ⟨rfl, rfl⟩

theorem specLineOk_any (a : Option Addr) (xs : List Int) (cap : Nat) (w : World) (h : Reads w a xs) :
    Calls Try.prog 20 #[.slice a xs.length cap] w fun e w' => e = .returned (.bool (isL xs)) ∧ w' = w := by
  match xs with
  | [x, y] => exact specLineOk_two a x y cap w h
  | [] => exact specLineOk_not a 0 cap w (by simp)
  | [_] => exact specLineOk_not a 1 cap w (by simp)
  | _ :: _ :: _ :: r => exact specLineOk_not a (r.length + 1 + 1 + 1) cap w (by omega)

theorem specLineOk_yes (a : Option Addr) (x y : Int) (cap : Nat) (w : World) (h : Reads w a [x, y]) (hx : okW x = true) (hy : okW y = true) :
    Calls Try.prog 20 #[.slice a 2 cap] w fun e w' => e = .returned (.bool true) ∧ w' = w := by
  refine (specLineOk_two a x y cap w h).mono ?_
  rintro e w' ⟨rfl, rfl⟩
  exact ⟨by rw [hx, hy]; rfl, rfl⟩

set_option maxHeartbeats 400000 in
theorem specWordAt_any (a : Option Addr) (xs : List Int) (cap : Nat) (k : Int) (w : World) (h : Reads w a xs) :
    Calls Try.prog 18 #[.slice a xs.length cap, .int .i64 k] w fun e w' => e = .returned (.int .i64 (wordI xs k)) ∧ w' = w := by
  rcases isL_cases xs with hn | ⟨x, y, rfl, hx, hy⟩
  · have H : Hid (wordI xs k = -1) := by unfold Hid wordI; simp [hn]
    go_enter Try.func18, Try.ntmps18
    go_wp2_with (go_at_call 20; refine (specLineOk_any _ _ _ _ h).mono ?_; rintro e w' ⟨rfl, rfl⟩)
    go_ret
    exact ⟨ret_int H.out.symm, rfl⟩
  · have hh := isL_yes hx hy
    have h' := h
    obtain ⟨b, off, rfl, c0, c1⟩ := reads_two h
    cases hk : betw k 0 1
    · have H : Hid (wordI [x, y] k = -1) := by unfold Hid wordI; simp [hk]
      go_enter Try.func18, Try.ntmps18
      go_wp2_with (first
        | (go_at_call 20; refine (specLineOk_yes _ _ _ _ _ h' hx hy).mono ?_; rintro e w' ⟨rfl, rfl⟩)
        | (go_at_call 37; refine (l1In_any _ _ _ _).mono ?_; rintro e w' ⟨rfl, rfl⟩))
      go_ret
      exact ⟨ret_int H.out.symm, rfl⟩
    · rcases betw_two hk with rfl | rfl
      all_goals
        go_enter Try.func18, Try.ntmps18
        go_wp2_with (first
          | (go_at_call 20; refine (specLineOk_yes _ _ _ _ _ h' hx hy).mono ?_; rintro e w' ⟨rfl, rfl⟩)
          | (go_at_call 37; refine (l1In_any _ _ _ _).mono ?_; rintro e w' ⟨rfl, rfl⟩))
        go_ret
        exact ⟨ret_int (by simp [wordI, hh, betw]), rfl⟩

theorem made_put {w w1 : World} {g cap : Nat} {zs : List Int} (h : OwnI w.heap.size w1 g cap zs) (hb : Below w.heap.size w w1) (k : Nat) (u : Int) :
    Made w (w1.setCell ⟨g, k, none⟩ (.int .i64 u)) (.slice (some ⟨g, 0, none⟩) zs.length cap) (zs.set k u) := by
  have hl := h.lt g rfl
  have S := World.ownsRow.stored h k (.int .i64 u)
  refine ⟨g, cap, by simp, hl.1, by simpa using hl.2, ?_, hb.grown S.2 hb.size (by intro j hj; cases hj; exact hl.1)⟩
  have := S.1
  unfold OwnI
  rw [List.length_set, List.map_set]
  exact this

theorem owni_cells {B g cap : Nat} {w : World} {x y : Int} (h : OwnI B w g cap [x, y]) :
    w.cell? ⟨g, 0, none⟩ = some (.int .i64 x) ∧ w.cell? ⟨g, 1, none⟩ = some (.int .i64 y) ∧ w.frozen? ⟨g, 0, none⟩ = false ∧ w.frozen? ⟨g, 1, none⟩ = false :=
  ⟨by rw [World.ownsRow.cellAt h 0 (by simp)]; rfl, by rw [World.ownsRow.cellAt h 1 (by simp)]; rfl, World.ownsRow.frozenAt h 0, World.ownsRow.frozenAt h 1⟩

set_option maxHeartbeats 1000000 in
theorem specPut_any (a : Option Addr) (xs : List Int) (cap : Nat) (k u : Int) (w : World) (h : Reads w a xs) :
    Calls Try.prog 14 #[.slice a xs.length cap, .int .i64 k, .int .i64 u] w fun e w' => ∃ v, e = .returned (.tuple #[v, .bool (putB xs k u)]) ∧ Made w w' v (putL xs k u) := by
  rcases isL_cases xs with hn | ⟨x, y, rfl, hx, hy⟩
  · have H : Hid (putL xs k u = [] ∧ putB xs k u = false) := by unfold Hid putL putB; simp [hn]
    go_enter Try.func14, Try.ntmps14
    go_wp2_with fail
    refine (specLineOk_any _ _ _ _ h).mono ?_
    rintro e w' ⟨rfl, rfl⟩
    rw [hn]
    go_wp2
    refine bodyPost_ret (v := .tuple #[.slice (some ⟨w'.heap.size, 0, none⟩) 0 0, .bool false]) (by simp [results, Try.results14, go_sem]) rfl ?_
    rw [H.out.1, H.out.2]
    exact ⟨_, rfl, made_lit _ #[] [] rfl (Nat.zero_le _)⟩
  · have hh := isL_yes hx hy
    have HB : Hid (putB [x, y] k u = (betw k 0 1 && okW u)) := by unfold Hid putB; simp [hh]
    obtain ⟨b, off, rfl, -⟩ := reads_two h
    have main : ∀ c1 c2 : Bool, betw k 0 1 = c1 → okW u = c2 → (c1 && c2) = false →
        Calls Try.prog 14 #[.slice (some ⟨b, off, none⟩) 2 cap, .int .i64 k, .int .i64 u] w fun e w' => ∃ v, e = .returned (.tuple #[v, .bool (putB [x, y] k u)]) ∧ Made w w' v (putL [x, y] k u) := by
      intro c1 c2 e1 e2 e3
      have H : Hid (putL [x, y] k u = [x, y]) := by
        unfold Hid putL; rw [e1, e2]; cases c1 <;> cases c2 <;> simp_all
      have HF : Hid (putB [x, y] k u = false) := by unfold Hid; rw [HB.out, e1, e2, e3]
      clear HB
      cases c1 <;> cases c2
      case true.true => simp at e3
      all_goals
        go_enter Try.func14, Try.ntmps14
        go_wp2_with (first
          | (go_at_call 20; refine (specLineOk_yes _ _ _ _ _ h hx hy).mono ?_; rintro e w' ⟨rfl, rfl⟩)
          | (go_at_call 36; refine (l1Copy_any _ [x, y] _ _ h (by simp)).mono ?_; rintro e w1 ⟨v, rfl, m1⟩)
          | (go_at_call 38; refine (l3Word_any _ _).mono ?_; rintro e w' ⟨rfl, rfl⟩)
          | (go_at_call 37; refine (l1In_any _ _ _ _).mono ?_; rintro e w' ⟨rfl, rfl⟩))
        refine bodyPost_ret (v := .tuple #[v, .bool false]) (by simp [results, Try.results14, go_sem]) rfl ?_
        rw [H.out, HF.out]
        exact ⟨_, rfl, m1⟩
    cases hk : betw k 0 1
    · exact main _ _ hk rfl (by simp)
    cases hu : okW u
    · exact main _ _ hk hu (by simp)
    clear main
    rcases betw_two hk with rfl | rfl
    · have H : Hid (putL [x, y] 0 u = [u, y]) := by unfold Hid putL; simp [hk, hh, hu]
      go_enter Try.func14, Try.ntmps14
      go_wp2_with (first
        | (go_at_call 20; refine (specLineOk_yes _ _ _ _ _ h hx hy).mono ?_; rintro e w' ⟨rfl, rfl⟩)
        | (go_at_call 36; refine (l1Copy_any _ [x, y] _ _ h (by simp)).mono ?_; rintro e w1 ⟨v, rfl, g, cg, rfl, l1, l1', o1, b1⟩; obtain ⟨c0, c1, f0, f1⟩ := owni_cells o1)
        | (go_at_call 38; refine (l3Word_any _ _).mono ?_; rintro e w' ⟨rfl, rfl⟩)
        | (go_at_call 37; refine (l1In_any _ _ _ _).mono ?_; rintro e w' ⟨rfl, rfl⟩))
      refine bodyPost_ret (v := .tuple #[.slice (some ⟨g, 0, none⟩) 2 cg, .bool true]) (by simp [results, Try.results14, go_sem]) rfl ?_
      rw [H.out, HB.out, hk, hu]
      exact ⟨_, rfl, made_put o1 b1 0 u⟩
    · have H : Hid (putL [x, y] 1 u = [x, u]) := by unfold Hid putL; simp [hk, hh, hu]
      go_enter Try.func14, Try.ntmps14
      go_wp2_with (first
        | (go_at_call 20; refine (specLineOk_yes _ _ _ _ _ h hx hy).mono ?_; rintro e w' ⟨rfl, rfl⟩)
        | (go_at_call 36; refine (l1Copy_any _ [x, y] _ _ h (by simp)).mono ?_; rintro e w1 ⟨v, rfl, g, cg, rfl, l1, l1', o1, b1⟩; obtain ⟨c0, c1, f0, f1⟩ := owni_cells o1)
        | (go_at_call 38; refine (l3Word_any _ _).mono ?_; rintro e w' ⟨rfl, rfl⟩)
        | (go_at_call 37; refine (l1In_any _ _ _ _).mono ?_; rintro e w' ⟨rfl, rfl⟩))
      refine bodyPost_ret (v := .tuple #[.slice (some ⟨g, 0, none⟩) 2 cg, .bool true]) (by simp [results, Try.results14, go_sem]) rfl ?_
      rw [H.out, HB.out, hk, hu]
      exact ⟨_, rfl, made_put o1 b1 1 u⟩

end Go.Proofs.Ytkiakcmhcjiknaa
