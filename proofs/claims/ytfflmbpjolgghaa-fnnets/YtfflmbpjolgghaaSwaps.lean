/- Two letters of a post change places. Conditions: an owned row of letters, places that are there. -/
import Derived.Test.YtfflmbpjolgghaaHeapUp
import Derived.Test.YtfflmbpjolgghaaHeapList
import Derived.BigRegion
import Derived.RegionTactic
namespace Go.Proofs.Ytfflmbpjolgghaa
open Go.ChangeShapes Go.WideShapes Go.ChangeAt Go.RowKit
set_option linter.unusedVariables false

theorem own_drew {α : Type} {R : Rep α} {w : World} {S : Foot} {cs : List Value} {x : α} (h : R.own w S cs x) : R.own w.drew S cs x := R.own_keep h fun _ _ _ => rfl
theorem chg_drew {S : Foot} {w w' : World} (h : Chg S w w') : Chg S w w'.drew := ⟨h.os, h.tape, h.output, h.size, h.block⟩
theorem let_own {w : World} {S : Foot} {x : LetD} (h1 : In64 x.1) (h2 : x.2.length = 7) : letR.own w S (.int .i64 x.1 :: x.2) x :=
  ⟨[_], x.2, fun _ => False, fun _ => False, rfl, ⟨rfl, h1⟩, ⟨rfl, h2⟩, fun _ h => h.elim, fun _ h => h.elim, fun _ h _ => h⟩
theorem post_at {w : World} {S : Foot} {v : Value} {ls : List LetD} {i : Nat} {x : LetD} (h : postR.own w S [v] ls) (hx : ls[i]? = some x) : In64 x.1 ∧ x.2.length = 7 := by
  obtain ⟨a, cap, _, _, _, hs⟩ := postR.own_rd h
  obtain ⟨b, off, c, _, hrd, _⟩ := slrd_at hs hx
  exact (let_rd hrd).2
/-- One letter of an owned post is set anew. -/
theorem post_set {w : World} {S : Foot} {g cap i : Nat} {ls : List LetD} {x y : LetD} (h : postR.own w S [.slice (some ⟨g, 0, none⟩) ls.length cap] ls) (hx : ls[i]? = some x) (h1 : In64 y.1) (h2 : y.2.length = 7) :
    postR.own (putC w g (i * 8) (.int .i64 y.1 :: y.2)) S [.slice (some ⟨g, 0, none⟩) (ls.set i y).length cap] (ls.set i y) ∧ w.grownBy (putC w g (i * 8) (.int .i64 y.1 :: y.2)) (some g) := by
  obtain ⟨v', rows, S', hv, hr, hg, hs, hl⟩ := h
  simp only [List.cons.injEq, and_true] at hv
  subst hv
  have hil := (List.getElem?_eq_some_iff.1 hx).1
  obtain ⟨Sj, T, _, b1, b2, _, b4⟩ := lown_focus hl hx
  have hgg := hg g rfl
  obtain ⟨p1, p2⟩ := putC_row (cs := .int .i64 y.1 :: y.2) (off := i * 8) hr (by
    have : (i + 1) * 8 ≤ ls.length * 8 := Nat.mul_le_mul_right _ hil
    simp [h2]
    show i * 8 + 8 ≤ ls.length * 8
    omega)
  have hlen : (.int .i64 y.1 :: y.2 : List Value).length = 8 := by simp [h2]
  rw [hlen] at p1
  refine ⟨⟨_, _, S', rfl, by rw [List.length_set]; exact p1, fun g' hg' => ?_, hs, ?_⟩, p2⟩
  · simp [Value.ownBlock] at hg'
    subst hg'
    exact hgg
  · exact b4 _ _ y (fun _ => False) S' (fun k hk hlk => p2.block k hlk (fun e => by cases e; exact hgg.2 (b2 _ hk))) (let_own h1 h2) (fun _ h _ => h) (fun _ h => h.elim) b2

/-- The cells of a letter's message: numbers, and one slice. -/
def MsgC (l : List Value) : Prop := ∃ (a b c d e : Int) (p : Option Addr) (n m : Nat) (f : Int), l = [.int .i64 a, .int .i64 b, .int .i64 c, .int .i64 d, .int .i64 e, .slice p n m, .int .i64 f]
theorem len7 {α : Type} {l : List α} (h : l.length = 7) : ∃ a b c d e f g, l = [a, b, c, d, e, f, g] := by
  match l, h with
  | [a, b, c, d, e, f, g], _ => exact ⟨a, b, c, d, e, f, g, rfl⟩
theorem msgc_len {l : List Value} (h : MsgC l) : l.length = 7 := by
  obtain ⟨a, b, c, d, e, p, n, m, f, rfl⟩ := h
  rfl
theorem post_cells {w : World} {S : Foot} {g cap i : Nat} {n : Nat} {ls : List LetD} {x : LetD} (h : postR.own w S [.slice (some ⟨g, 0, none⟩) n cap] ls) (hx : ls[i]? = some x) :
    ∀ r u, (.int .i64 x.1 :: x.2 : List Value)[r]? = some u → w.cell? ⟨g, i * 8 + r, none⟩ = some u := by
  obtain ⟨a, cap', e, _, _, hs⟩ := postR.own_rd h
  simp only [List.cons.injEq, Value.slice.injEq, and_true] at e
  obtain ⟨b, off, c, ha, hrd, hcell⟩ := slrd_at hs hx
  obtain ⟨rfl, -, -⟩ := let_rd hrd
  have e1 := e.1
  rw [ha] at e1
  simp only [Option.some.injEq, Addr.mk.injEq, and_true] at e1
  obtain ⟨rfl, rfl⟩ := e1
  intro r u hu
  have := hcell r u hu
  rw [Nat.zero_add] at this
  exact this
theorem post_froz {w : World} {S : Foot} {g cap n : Nat} {ls : List LetD} (h : postR.own w S [.slice (some ⟨g, 0, none⟩) n cap] ls) (o : Nat) : w.frozen? ⟨g, o, none⟩ = false := by
  obtain ⟨v', rows, S', hv, hr, hg, hs, hl⟩ := h
  simp only [List.cons.injEq, and_true] at hv
  subst hv
  obtain ⟨cur, hh⟩ := row_block hr rfl
  exact frozen_of_row w g o _ _ hh

set_option maxRecDepth 20000 in
set_option maxHeartbeats 4000000 in
theorem postSwap_any (S : Foot) (g cap i j : Nat) (ls : List LetD) (x y : LetD) (w : World) (h : postR.own w S [.slice (some ⟨g, 0, none⟩) ls.length cap] ls) (hi : ls[i]? = some x) (hj : ls[j]? = some y) (hm : ls.length ≤ 1000) (hsh : ∀ u ∈ ls, MsgC u.2) :
    Calls Try.prog 104 #[.slice (some ⟨g, 0, none⟩) ls.length cap, .int .i64 (i : Int), .int .i64 (j : Int)] w fun e w' => e = .returned (.tuple #[]) ∧
      postR.own w' S [.slice (some ⟨g, 0, none⟩) ls.length cap] (swapL ls i j x y) ∧ Chg (fun k => k = g) w w' := by
  have hil := (List.getElem?_eq_some_iff.1 hi).1
  have hjl := (List.getElem?_eq_some_iff.1 hj).1
  have hil' : (i : Int) < (ls.length : Int) := by omega
  have hjl' : (j : Int) < (ls.length : Int) := by omega
  obtain ⟨x1, x2⟩ := post_at h hi
  obtain ⟨y1, y2⟩ := post_at h hj
  have sx := hsh x (List.mem_of_getElem? hi)
  have sy := hsh y (List.mem_of_getElem? hj)
  have cx := post_cells h hi
  have cy := post_cells h hj
  have fz := post_froz h
  obtain ⟨o1, q1⟩ := post_set h hi y1 y2
  have hj2 : ∃ z, (ls.set i y)[j]? = some z := ⟨_, List.getElem?_eq_getElem (by simpa using hjl)⟩
  obtain ⟨z, hz⟩ := hj2
  obtain ⟨o2, q2⟩ := post_set o1 hz x1 x2
  have cz := post_cells o1 hz
  have fz2 := post_froz o1
  have z2 := (post_at o1 hz).2
  obtain ⟨n1, l1⟩ := x
  obtain ⟨n2, l2⟩ := y
  simp only at x1 x2 y1 y2 o1 q1 o2 q2 cx cy sx sy cz fz2
  obtain ⟨a1, a2, a3, a4, a5, pa, na, ma, a7, rfl⟩ := sx
  obtain ⟨b1, b2, b3, b4, b5, qb, nb, mb, b7, rfl⟩ := sy
  have i0 := cx 0 _ rfl
  have i1 := cx 1 _ rfl
  have i2 := cx 2 _ rfl
  have i3 := cx 3 _ rfl
  have i4 := cx 4 _ rfl
  have i5 := cx 5 _ rfl
  have i6 := cx 6 _ rfl
  have i7 := cx 7 _ rfl
  have j0 := cy 0 _ rfl
  have j1 := cy 1 _ rfl
  have j2 := cy 2 _ rfl
  have j3 := cy 3 _ rfl
  have j4 := cy 4 _ rfl
  have j5 := cy 5 _ rfl
  have j6 := cy 6 _ rfl
  have j7 := cy 7 _ rfl
  obtain ⟨zn, zl⟩ := z
  obtain ⟨d1, d2, d3, d4, d5, d6, d7, rfl⟩ := len7 z2
  have k0 := cz 0 _ rfl
  have h0 := fz2 (j * 8)
  have k1 := cz 1 _ rfl
  have h1 := fz2 (j * 8 + 1)
  have k2 := cz 2 _ rfl
  have h2 := fz2 (j * 8 + 2)
  have k3 := cz 3 _ rfl
  have h3 := fz2 (j * 8 + 3)
  have k4 := cz 4 _ rfl
  have h4 := fz2 (j * 8 + 4)
  have k5 := cz 5 _ rfl
  have h5 := fz2 (j * 8 + 5)
  have k6 := cz 6 _ rfl
  have h6 := fz2 (j * 8 + 6)
  have k7 := cz 7 _ rfl
  have h7 := fz2 (j * 8 + 7)
  rw [Nat.add_zero] at i0 j0 k0
  simp only [putC, Nat.add_assoc, Nat.reduceAdd] at k0 h0 k1 h1 k2 h2 k3 h3 k4 h4 k5 h5 k6 h6 k7 h7
  have f0 := fz (i * 8)
  have g0 := fz (j * 8)
  have f1 := fz (i * 8 + 1)
  have g1 := fz (j * 8 + 1)
  have f2 := fz (i * 8 + 2)
  have g2 := fz (j * 8 + 2)
  have f3 := fz (i * 8 + 3)
  have g3 := fz (j * 8 + 3)
  have f4 := fz (i * 8 + 4)
  have g4 := fz (j * 8 + 4)
  have f5 := fz (i * 8 + 5)
  have g5 := fz (j * 8 + 5)
  have f6 := fz (i * 8 + 6)
  have g6 := fz (j * 8 + 6)
  have f7 := fz (i * 8 + 7)
  have g7 := fz (j * 8 + 7)
  clear fz
  have HO : Hid _ := And.intro o2 (And.intro q1 q2)
  clear hsh cx cy cz fz2 z2 o1 q1 o2 q2 hz h hi hj x1 x2 y1 y2
  go_enter Try.func104, Try.ntmps104
  go_wp2
  go_big_region
  obtain ⟨o2, q1, q2⟩ := HO.out
  rw [show ((ls.set i (n2, [.int .i64 b1, .int .i64 b2, .int .i64 b3, .int .i64 b4, .int .i64 b5, .slice qb nb mb, .int .i64 b7])).set j (n1, [.int .i64 a1, .int .i64 a2, .int .i64 a3, .int .i64 a4, .int .i64 a5, .slice pa na ma, .int .i64 a7])).length = ls.length from by simp] at o2
  have CH : Chg (fun k => k = g) w _ := (chg_grown (S := fun k => k = g) q1 rfl).trans (chg_grown (S := fun k => k = g) q2 rfl)
  simp only [putC, Nat.add_assoc, Nat.reduceAdd] at o2 CH
  refine bodyPost_end (v := .tuple #[]) (by simp [results, Try.results104, go_sem]) rfl ⟨rfl, own_drew o2, chg_drew CH⟩
end Go.Proofs.Ytfflmbpjolgghaa
