/- Plain facts on lines: what is put is there and the other word stays; what is masked has each word of one of both; and what is kept of lists that a walk holds. No condition. -/
import Derived.Test.YtkiakcmhcjiknaaLines7
import Derived.Test.YtkiakcmhcjiknaaDrawLine3
namespace Go.Proofs.Ytkiakcmhcjiknaa
open Go.ChangeShapes Go.WideShapes Go.ChangeAt Go.RowKit

theorem put_no {xs : List Int} {k u : Int} (h : putB xs k u = false) (hl : isL xs = true) : putL xs k u = xs := by
  unfold putB at h
  rw [hl, Bool.true_and] at h
  unfold putL
  rw [hl]
  cases h1 : betw k 0 1
  · simp
  · rw [h1, Bool.true_and] at h
    simp [h]

theorem put_yes {xs : List Int} {k u : Int} (h : putB xs k u = true) :
    ∃ x y, xs = [x, y] ∧ okW x = true ∧ okW y = true ∧ okW u = true ∧ ((k = 0 ∧ putL xs k u = [u, y]) ∨ (k = 1 ∧ putL xs k u = [x, u])) := by
  unfold putB at h
  simp only [Bool.and_eq_true] at h
  obtain ⟨h1, h2, h3⟩ := h
  rcases isL_cases xs with hn | ⟨x, y, rfl, hx, hy⟩
  · rw [hn] at h1; cases h1
  · refine ⟨x, y, rfl, hx, hy, h3, ?_⟩
    rcases betw_two h2 with rfl | rfl
    · exact .inl ⟨rfl, by simp [putL, h1, h2, h3]⟩
    · exact .inr ⟨rfl, by simp [putL, h1, h2, h3]⟩

theorem word0 {x y : Int} (hx : okW x = true) (hy : okW y = true) : wordI [x, y] 0 = x := by simp [wordI, isL_yes hx hy, betw]
theorem word1 {x y : Int} (hx : okW x = true) (hy : okW y = true) : wordI [x, y] 1 = y := by simp [wordI, isL_yes hx hy, betw]

theorem mask_val {x y x2 y2 m : Int} (hx : okW x = true) (hy : okW y = true) (hx2 : okW x2 = true) (hy2 : okW y2 = true) (hm : betw m 0 3 = true) :
    maskL [x, y] [x2, y2] m = [if m % 2 = 1 then x2 else x, if m / 2 % 2 = 1 then y2 else y] := by
  unfold maskL; simp [isL_yes hx hy, isL_yes hx2 hy2, hm]

theorem mask_not {xs ys : List Int} {m : Int} (h : (isL xs && isL ys && betw m 0 3) = false) : maskL xs ys m = [] := by unfold maskL; rw [h]; rfl

structure Kit6 (w W : World) (g1 c1 : Nat) (l1 : List Int) (g2 c2 : Nat) (l2 : List Int) (g3 c3 : Nat) (l3 : List Int) (g4 c4 : Nat) (l4 : List Int) (g5 c5 : Nat) (l5 : List Int) (g6 c6 : Nat) (l6 : List Int) : Prop where
  bel : Below w.heap.size w W
  o1 : OwnI 0 W g1 c1 l1
  o2 : OwnI 0 W g2 c2 l2
  o3 : OwnI 0 W g3 c3 l3
  o4 : OwnI 0 W g4 c4 l4
  o5 : OwnI 0 W g5 c5 l5
  o6 : OwnI 0 W g6 c6 l6

section
variable {w W W' : World} {g1 c1 : Nat} {l1 : List Int} {g2 c2 : Nat} {l2 : List Int} {g3 c3 : Nat} {l3 : List Int} {g4 c4 : Nat} {l4 : List Int} {g5 c5 : Nat} {l5 : List Int} {g6 c6 : Nat} {l6 : List Int}
theorem Kit6.below (K : Kit6 w W g1 c1 l1 g2 c2 l2 g3 c3 l3 g4 c4 l4 g5 c5 l5 g6 c6 l6) (hb : Below W.heap.size W W') : Kit6 w W' g1 c1 l1 g2 c2 l2 g3 c3 l3 g4 c4 l4 g5 c5 l5 g6 c6 l6 :=
  ⟨below_step K.bel hb, owni_below K.o1 hb (owni_lt K.o1).2, owni_below K.o2 hb (owni_lt K.o2).2, owni_below K.o3 hb (owni_lt K.o3).2, owni_below K.o4 hb (owni_lt K.o4).2, owni_below K.o5 hb (owni_lt K.o5).2, owni_below K.o6 hb (owni_lt K.o6).2⟩
theorem Kit6.drew (K : Kit6 w W g1 c1 l1 g2 c2 l2 g3 c3 l3 g4 c4 l4 g5 c5 l5 g6 c6 l6) (n : Nat) : Kit6 w (W.drewN n) g1 c1 l1 g2 c2 l2 g3 c3 l3 g4 c4 l4 g5 c5 l5 g6 c6 l6 :=
  ⟨below_drewN K.bel n, owni_drewN K.o1, owni_drewN K.o2, owni_drewN K.o3, owni_drewN K.o4, owni_drewN K.o5, owni_drewN K.o6⟩
end

end Go.Proofs.Ytkiakcmhcjiknaa
