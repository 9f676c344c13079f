import Derived.Test.YtoihjejenjcokaaGreatDoorP00Box
import Derived.Test.YtoihjejenjcokaaGreatDoorP15AppAny
import Derived.Test.YtoihjejenjcokaaGreatDoorP19LetterOk
namespace Go.Proofs.YtoihjejenjcokaaGreatDoor
open Go.ChangeShapes Go.WideShapes Go.ChangeAt Go.RowKit
set_option linter.unusedVariables false
theorem zEG {w : World} {S : zAX} {u0 : Value} {cs : List (List zAU)} {s j : Nat} {row : List zAU} {old : zAU} (h : zBu.own w S [u0] cs) (hs : cs[s]? = some row) (hj : row[j]? = some old) :
    ∃ g cap g2 cap2 ua uc, u0 = .slice (some ⟨g, 0, none⟩) cs.length cap ∧ w.cell? ⟨g, s, none⟩ = some (.slice (some ⟨g2, 0, none⟩) row.length cap2) ∧ S g ∧ S g2 ∧ g ≠ g2 ∧ g < w.heap.size ∧ g2 < w.heap.size ∧
     w.cell? ⟨g2, j * 3, none⟩ = some (.int .i64 old.1) ∧ w.cell? ⟨g2, j * 3 + 1, none⟩ = some (.int .i64 old.2.1) ∧ w.cell? ⟨g2, j * 3 + 2, none⟩ = some (.slice ua old.2.2.length uc) ∧ zBh zBC w ua old.2.2 ∧ (∃ cur t, w.heap[g2]? = some (.cells cur t (0, 0))) ∧
     ∀ w1 v, Below w.heap.size w w1 → zBk v → zBu.own (w1.setCell ⟨g2, j * 3 + 1, none⟩ (.int .i64 v)) S [u0] (cs.set s (row.set j (old.1, v, old.2.2))) ∧ Chg (fun k => k = g2) w (w1.setCell ⟨g2, j * 3 + 1, none⟩ (.int .i64 v)) := by
 obtain ⟨g, cap, Sj, T, c, hv, hSg, ob, s1, s2, hd, n2, back⟩ := zEB h hs
 have e1 : zBl.size = 1 := rfl
 have e3 : zAS.size = 3 := rfl
 obtain ⟨v1, rfl⟩ : ∃ v1, c = [v1] := List.length_eq_one_iff.1 (zBl.rd_len (zBl.own_rd ob.own))
 obtain ⟨g2, cap2, Sk, T2, c2, hv2, hSg2, ob2, s3, s4, hd2, n4, back2⟩ := zEB ob.own hj
 obtain ⟨ua, uc, rfl, i1, i2, l1, l2, l3⟩ := zAL (zAS.own_rd ob2.own)
 subst hv2
 subst hv
 rw [e1, Nat.mul_one] at ob back
 rw [e3] at ob2
 have hne : g ≠ g2 := fun e => ob.out (e ▸ hSg2)
 obtain ⟨cur2, hc2, -⟩ := ob2.lies
 refine ⟨g, cap, g2, cap2, ua, uc, rfl, zIz ob.lies, hSg, s1 _ hSg2, hne, at_lt ob.lies, at_lt ob2.lies, zIz ob2.lies, zFF ob2.lies 1 rfl, zFF ob2.lies 2 rfl, l3, ⟨cur2, _, hc2⟩, fun w1 v hb hv => ?_⟩
 have hT : ¬ T g2 := fun q => hd _ hSg2 q
 have hch : Chg (fun k => k = g2) w (w1.setCell ⟨g2, j * 3 + 1, none⟩ (.int .i64 v)) := (zA9 (S := fun k => k = g2) hb).trans (zCR (zIf w1 g2 (j * 3 + 1) _) rfl)
 refine ⟨?_, hch⟩
 have hin : zBl.own (w1.setCell ⟨g2, j * zAS.size + 1, none⟩ (.int .i64 v)) Sj [.slice (some ⟨g2, 0, none⟩) row.length cap2] (row.set j (old.1, v, old.2.2)) :=
  zFs (zBl.own_keep ob.own (zAh hb)) hj (by rw [e3]; decide) (fun c hc W T ho => by
   obtain ⟨v9, rfl, j1, j2, o9⟩ := zHY ho
   exact zCF j1 hv o9)
 rw [e3] at hin
 have hk : ∀ F : zAX, ¬ F g2 → Keeps F w (w1.setCell ⟨g2, j * 3 + 1, none⟩ (.int .i64 v)) := fun F hF k hk hl => hch.block k hl (fun e => hF (by have e' : k = g2 := e; rw [← e']; exact hk))
 have hgs : (w1.setCell ⟨g2, j * 3 + 1, none⟩ (.int .i64 v)).heap[g]? = w.heap[g]? := hch.block g (at_lt ob.lies) hne
 exact back _ [.slice (some ⟨g2, 0, none⟩) row.length cap2] (row.set j (old.1, v, old.2.2)) Sj S ⟨at_keep ob.lies hgs, hin, ob.out⟩ (In.same hgs) (hk T hT) hd hSg s1 s2
theorem zFZ {w : World} {S : zAX} {g1 g2 n cap cap2 l : Nat} {cs : List (List zAU)} {s j : Nat} {row : List zAU} {old : zAU} (h : zBu.own w S [.slice (some ⟨g1, 0, none⟩) n cap] cs) (hs : cs[s]? = some row) (hj : row[j]? = some old) (hc : w.cell? ⟨g1, s, none⟩ = some (.slice (some ⟨g2, 0, none⟩) l cap2)) :
    ∀ w9 c1 c2 c3 x, zAY zAS w w9 [c1, c2, c3] x → (∃ cur, w9.heap[g2]? = some (.cells cur 39 (0, 0)) ∧ j * 3 + 2 < cur.size) ∧
     zBu.own (zEs w9 g2 (j * 3) c1 c2 c3) (fun k => Old w S k ∨ (w.heap.size ≤ k ∧ k < w9.heap.size)) [.slice (some ⟨g1, 0, none⟩) n cap] (cs.set s (row.set j x)) ∧ Chg (fun k => k = g2) w (zEs w9 g2 (j * 3) c1 c2 c3) := by
 obtain ⟨g, cap', g2', cap2', e1, hcell, -, -, -, -, -, st⟩ := zCN h hs hj
 simp only [Value.slice.injEq, Option.some.injEq, Addr.mk.injEq, and_true] at e1
 obtain ⟨rfl, -, -⟩ := e1
 rw [hcell] at hc
 simp only [Option.some.injEq, Value.slice.injEq, Addr.mk.injEq, and_true] at hc
 obtain ⟨rfl, -, -⟩ := hc
 exact st
end Go.Proofs.YtoihjejenjcokaaGreatDoor
