import Derived.Test.YtmdhblhdfcocjaaGreatDoorP00Box
import Derived.Test.YtmdhblhdfcocjaaGreatDoorP19
namespace Go.Proofs.YtmdhblhdfcocjaaGreatDoor
open Go.ChangeShapes Go.WideShapes Go.ChangeAt Go.RowKit
set_option linter.unusedVariables false
theorem zEG {w : World} {S : zAW} {u0 : Value} {cs : List (List zAT)} {s j : Nat} {row : List zAT} {old : zAT} (h : zBu.own w S [u0] cs) (hs : cs[s]? = some row) (hj : row[j]? = some old) :
    ∃ g m a b A E, u0 = sL (some ⟨g, 0, none⟩) cs.length m ∧ w.cell? ⟨g, s, none⟩ = some (sL (some ⟨a, 0, none⟩) row.length b) ∧ S g ∧ S a ∧ g ≠ a ∧ g < w.heap.size ∧ a < w.heap.size ∧
     w.cell? ⟨a, j * 3, none⟩ = some (nI old.1) ∧ w.cell? ⟨a, j * 3 + 1, none⟩ = some (nI old.2.1) ∧ w.cell? ⟨a, j * 3 + 2, none⟩ = some (sL A old.2.2.length E) ∧ zBg zBC w A old.2.2 ∧ (∃ cur t, w.heap[a]? = some (.cells cur t (0, 0))) ∧
     ∀ w1 v, Bl w w1 → zBk v → zBu.own (w1.setCell ⟨a, j * 3 + 1, none⟩ (nI v)) S [u0] (cs.set s (row.set j (old.1, v, old.2.2))) ∧ Chg (fun k => k = a) w (w1.setCell ⟨a, j * 3 + 1, none⟩ (nI v)) := by
 obtain ⟨g, m, Sj, T, c, G, p, i, K, M, L, n2, l⟩ := zEB h hs;have Y : zBl.size = 1 := rfl;have H : zAR.size = 3 := rfl;obtain ⟨J, rfl⟩ : ∃ J, c = [J] := List.length_eq_one_iff.1 (zBl.rd_len (zBl.own_rd i.own));obtain ⟨a, b, Sk, T2, c2, I, f, d, s3, s4, U, n4, D⟩ := zEB i.own hj;obtain ⟨A, E, rfl, i1, i2, l1, l2, N⟩ := zAL (zAR.own_rd d.own);subst I;subst G;rw [Y, Nat.mul_one] at i l;rw [H] at d;have y : g ≠ a := fun e => i.out (e ▸ f);obtain ⟨z, B, -⟩ := d.lies;refine ⟨g, m, a, b, A, E, rfl, zI0 i.lies, p, K _ f, y, at_lt i.lies, at_lt d.lies, zI0 d.lies, zFF d.lies 1 rfl, zFF d.lies 2 rfl, N, ⟨z, _, B⟩, fun w1 v hb G => ?_⟩;have V : ¬ T a := fun q => L _ f q;have n : Chg (fun k => k = a) w (w1.setCell ⟨a, j * 3 + 1, none⟩ (nI v)) := (zA9 (S := fun k => k = a) hb).trans (zCR (zIg w1 a (j * 3 + 1) _) rfl);refine ⟨?_, n⟩;have o : zBl.own (w1.setCell ⟨a, j * zAR.size + 1, none⟩ (nI v)) Sj [sL (some ⟨a, 0, none⟩) row.length b] (row.set j (old.1, v, old.2.2)) :=
  zFs (zBl.own_keep i.own (zAh hb)) hj (by rw [H]; decide) (fun c hc W T ho => by
   obtain ⟨v9, rfl, X, j2, R⟩ := zHZ ho
   exact zCF X G R)
 rw [H] at o;have C : ∀ F : zAW, ¬ F a → Keeps F w (w1.setCell ⟨a, j * 3 + 1, none⟩ (nI v)) := fun F hF k C hl => n.block k hl (fun e => hF (by have O : k = a := e; rw [← O]; exact C));have r : (w1.setCell ⟨a, j * 3 + 1, none⟩ (nI v)).heap[g]? = w.heap[g]? := n.block g (at_lt i.lies) y;exact l _ [sL (some ⟨a, 0, none⟩) row.length b] (row.set j (old.1, v, old.2.2)) Sj S ⟨at_keep i.lies r, o, i.out⟩ (In.same r) (C T V) L p K M
theorem zFZ {w : World} {S : zAW} {g1 g2 n cap cap2 l : Nat} {cs : List (List zAT)} {s j : Nat} {row : List zAT} {old : zAT} (h : zBu.own w S [sL (some ⟨g1, 0, none⟩) n cap] cs) (hs : cs[s]? = some row) (hj : row[j]? = some old) (hc : w.cell? ⟨g1, s, none⟩ = some (sL (some ⟨g2, 0, none⟩) l cap2)) :
    ∀ w9 c1 c2 c3 x, zAX zAR w w9 [c1, c2, c3] x → (∃ cur, w9.heap[g2]? = some (.cells cur 39 (0, 0)) ∧ j * 3 + 2 < cur.size) ∧
     zBu.own (zEs w9 g2 (j * 3) c1 c2 c3) (fun k => Old w S k ∨ (w.heap.size ≤ k ∧ k < w9.heap.size)) [sL (some ⟨g1, 0, none⟩) n cap] (cs.set s (row.set j x)) ∧ Chg (fun k => k = g2) w (zEs w9 g2 (j * 3) c1 c2 c3) := by
 obtain ⟨g, d, i, b, c, a, -, -, -, -, -, f⟩ := zCN h hs hj;simp only [Value.slice.injEq, Option.some.injEq, Addr.mk.injEq, and_true] at c;obtain ⟨rfl, -, -⟩ := c;rw [a] at hc;simp only [Option.some.injEq, Value.slice.injEq, Addr.mk.injEq, and_true] at hc;obtain ⟨rfl, -, -⟩ := hc;exact f
end Go.Proofs.YtmdhblhdfcocjaaGreatDoor
