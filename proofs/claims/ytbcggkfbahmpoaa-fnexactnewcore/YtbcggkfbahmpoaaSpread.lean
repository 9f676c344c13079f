
/- append(x, y...): a list that is only read, behind a row of the call's own: the law at a region's walk ('go_region_held_law'). No program in it. -/
import Derived.Test.YtbcggkfbahmpoaaJLinesBoxesAppGenOwned
namespace Go.Proofs.Ytbcggkfbahmpoaa
open Go.ChangeShapes Go.WideShapes Go.ChangeAt Go.RowKit
set_option linter.unusedVariables false

theorem lrd_more {α : Type} {R : Rep α} {w : World} {c : List Value} {x : α} : ∀ {cs : List Value} {xs : List α}, lrd R w cs xs → R.rd w c x → lrd R w (cs ++ c) (xs ++ [x])
  | cs, [], h, hx => by
    rw [show cs = [] from h]
    exact ⟨c, [], by simp, hx, rfl⟩
  | cs, y :: ys, ⟨c1, c2, e, h1, h2⟩, hx => by
    subst e
    exact ⟨c1, c2 ++ c, by simp, h1, lrd_more h2 hx⟩
/-- The cells of a list that reads. -/
theorem slrd_rows {α : Type} {R : Rep α} {w : World} {ad : Addr} {xs : List α} (h : SlRd R w (some ad) xs) : ∃ rows, lrd R w rows xs ∧ ∀ j u, rows[j]? = some u → w.cell? (ad.add j) = some u := by
  rcases h with rfl | ⟨b, off, rows, ha, hr, hc⟩
  · exact ⟨[], rfl, by simp⟩
  · simp only [Option.some.injEq] at ha
    subst ha
    exact ⟨rows, hr, fun j u hj => by rw [show (⟨b, off, none⟩ : Addr).add j = ⟨b, off + j, none⟩ from by simp [Addr.add]]; exact hc j u hj⟩
/-- A row that is made in a region behind the world V. -/
structure SP (V w : World) (e : TypeId) (size : Nat) (v : Value) (n : Nat) (rows : List Value) : Prop where
  own : w.ownsRow V.heap.size e size v n rows
  bel : Below V.heap.size V w
theorem sp_new {V w : World} {e : TypeId} {size : Nat} (hb : Below V.heap.size V w) : SP V (w.alloc (.cells #[] e)) e size (.slice (some ⟨w.heap.size, 0, none⟩) 0 0) 0 [] :=
  ⟨World.ownsRow_lit w #[] 0 hb.size (Nat.zero_le _) (by simp), hb.alloc hb.size _⟩
theorem sp_alloc {V w : World} {e : TypeId} {size : Nat} {v : Value} {n : Nat} {rows : List Value} (h : SP V w e size v n rows) (o : Obj) : SP V (w.alloc o) e size v n rows :=
  ⟨orow_keep h.own fun g hg => Below.heap_alloc _ _ _ (World.ownsRow.lt h.own g hg).2, h.bel.alloc h.bel.size _⟩
theorem sp_rd {α : Type} {R : Rep α} {V w : World} {e : TypeId} {size : Nat} {g cap n : Nat} {rows : List Value} {xs : List α} (h : SP V w e size (.slice (some ⟨g, 0, none⟩) n cap) n rows) (hr : lrd R w rows xs) : SlRd R w (some ⟨g, 0, none⟩) xs :=
  .inr ⟨g, 0, rows, rfl, hr, fun j u hj => by
    obtain ⟨hl, -⟩ := List.getElem?_eq_some_iff.1 hj
    rw [Nat.zero_add, World.ownsRow.cellAt h.own j (by rw [← h.own.1]; exact hl)]
    exact hj⟩
theorem step_spread {P : Program} {ops : Array Oper} {o : Oper} {a : Act} {w : World} {K : Act → World → Prop} {Q : Exit → Act → World → Prop} {E : Prop} (hgd : o.guard = none) (s x : Operand) (t : TypeId)
    (ho : o.op = .call { callee := .builtin .append, args := #[s, x], argTypes := #[t, t] })
    (V : World) (e : TypeId) (i : TypeInfo) (z : Value) (size bytes : Nat) (ht : P.underlying t = some (.slice e)) (hi : P.info? e = some i) (hz : i.zero = some z) (hsize : i.size = size) (hby : i.bytes = bytes) (hzs : z.cells.size = size) (hsz : 0 < size)
    (v : Value) (n : Nat) (rows : List Value) (hs : a.eval s = v) (ad : Addr) (m c : Nat) (news : List Value) (hx : a.eval x = .slice (some ad) m c) (h : SP V w e size v n rows) (hv : v ≠ .slice none 0 0) (hl : news.length = m * size)
    (hnews : Below V.heap.size V w → ∀ j u, news[j]? = some u → w.cell? (ad.add j) = some u) (h1 : ∀ u ∈ news, u.oneCell' = true) (q : Nat) (hq : n + m = q) (h63 : q ≤ maxLen) (hbytes : q * bytes ≤ 140737488355328)
    (k : ∀ g' cap' w', SP V w' e size (.slice (some ⟨g', 0, none⟩) q cap') q (rows ++ news) → w.grownBy w' v.ownBlock → K (a.put o.dst (.slice (some ⟨g', 0, none⟩) q cap')) w') :
    if Region.wanted o (yielded ops a.tmps) = true then Oper.wp P o a w K Q else E := by
  subst hq
  obtain ⟨v', w', hrun, hown, hgrow, hnil⟩ := run_append_own (P := P) (w := w) V.heap.size t o.type e i z size bytes ht hi hz hsize hby hzs hsz v n rows h.own ad m c news hl (hnews h.bel) h1 h63 hbytes h.bel.size
  have hv' : v' ≠ .slice none 0 0 := fun e => hv (hnil.1 e).1
  have hown2 := hown.2
  rcases hown2 with ⟨he, _⟩ | ⟨g', cap', cur, rfl, hbg, hh, _⟩
  · exact absurd he hv'
  · exact step_run hgd s x t o.type ho rfl v _ _ hs hx hrun (k g' cap' w' ⟨hown, h.bel.grown hgrow h.bel.size (fun k hk => (World.ownsRow.lt h.own k hk).1)⟩ hgrow)
/-- .. of nothing at all. -/
theorem step_spread_none {P : Program} {ops : Array Oper} {o : Oper} {a : Act} {w : World} {K : Act → World → Prop} {Q : Exit → Act → World → Prop} {E : Prop} (hgd : o.guard = none) (s x : Operand) (t : TypeId)
    (ho : o.op = .call { callee := .builtin .append, args := #[s, x], argTypes := #[t, t] })
    (V : World) (e : TypeId) (i : TypeInfo) (size : Nat) (ht : P.underlying t = some (.slice e)) (hi : P.info? e = some i)
    (v : Value) (n : Nat) (rows : List Value) (hs : a.eval s = v) (c : Nat) (hx : a.eval x = .slice none 0 c) (h : SP V w e size v n rows)
    (k : K (a.put o.dst v) w) : if Region.wanted o (yielded ops a.tmps) = true then Oper.wp P o a w K Q else E := by
  refine step_run hgd s x t o.type ho rfl v _ _ hs hx ?_ k
  rcases h.own.2 with ⟨rfl, rfl⟩ | ⟨g, cap, cur, rfl, _, _, hnc, _⟩
  · simp [Builtin.append_, run_underlying ht, sizeOf, typeInfo, hi, Builtin.lenOf, Builtin.firstCells]
  · simp [Builtin.append_, run_underlying ht, sizeOf, typeInfo, hi, Builtin.lenOf, Builtin.firstCells, hnc, storeCells]
theorem addr_zero (b j : Nat) : (⟨b, 0, none⟩ : Addr).add j = ⟨b, j, none⟩ := by simp [Addr.add] <;> omega
/-- A literal's cells behind what was laid or grown since. -/
theorem lay_past {w : World} {cs : List Value} {t : TypeId} (o : Obj) : ∀ j u, cs[j]? = some u → ((w.alloc (.cells cs.toArray t)).alloc o).cell? ((⟨w.heap.size, 0, none⟩ : Addr).add j) = some u := by
  intro j u hj
  have h := cells_news w cs t j u hj
  rw [addr_zero] at h ⊢
  rw [World.cell?_alloc_past _ _ _ (World.block_lt_of_cell? _ _ h)]
  exact h
theorem lay_two {w wA : World} {o : Obj} {cs : List Value} {t : TypeId} (hg : ((w.alloc o).alloc (.cells cs.toArray t)).grownBy wA (some w.heap.size)) : ∀ j u, cs[j]? = some u → wA.cell? ((⟨w.heap.size + 1, 0, none⟩ : Addr).add j) = some u := by
  intro j u hj
  have h := cells_news (w.alloc o) cs t j u hj
  rw [show (w.alloc o).heap.size = w.heap.size + 1 from by simp, addr_zero] at h
  rw [addr_zero]
  exact hg.cell h (by simp)
theorem lay_three {w wA : World} {o : Obj} {cs : List Value} {t : TypeId} (hg : ((w.alloc (.cells cs.toArray t)).alloc o).grownBy wA (some (w.heap.size + 1))) : ∀ j u, cs[j]? = some u → wA.cell? ((⟨w.heap.size, 0, none⟩ : Addr).add j) = some u := by
  intro j u hj
  have h := lay_past (w := w) (t := t) o j u hj
  rw [addr_zero] at h ⊢
  exact hg.cell h (by simp)
end Go.Proofs.Ytbcggkfbahmpoaa
