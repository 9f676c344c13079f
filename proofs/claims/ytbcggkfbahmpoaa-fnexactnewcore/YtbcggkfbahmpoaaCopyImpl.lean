
/- The program's copy of a store. Conditions: a right shape, lists that read as told, of lengths that a machine can hold. -/
import Derived.Test.YtbcggkfbahmpoaaCopyFacts
import Derived.Test.YtbcggkfbahmpoaaCloneRep
import Derived.Test.YtbcggkfbahmpoaaNewImpl
import Derived.Test.YtbcggkfbahmpoaaWaysOk
namespace Go.Proofs.Ytbcggkfbahmpoaa
open Go.ChangeShapes Go.WideShapes Go.ChangeAt Go.RowKit Go.Shelf
set_option linter.unusedVariables false
attribute [local go_sem] Oper.semAt_some

section
variable {W0 wx : World} {b0 o0 o1 : Nat} {u v : Value}
theorem sc_alloc (hD : b0 < W0.heap.size) (h : wx.cell? ⟨b0, o0, none⟩ = some u ∧ wx.cell? ⟨b0, o1, none⟩ = some v ∧ Below W0.heap.size W0 wx) (o : Obj) : (wx.alloc o).cell? ⟨b0, o0, none⟩ = some u ∧ (wx.alloc o).cell? ⟨b0, o1, none⟩ = some v ∧ Below W0.heap.size W0 (wx.alloc o) :=
  ⟨cell_keep (box_below wx o) h.1 (cell_lt h.1), cell_keep (box_below wx o) h.2.1 (cell_lt h.2.1), below_step h.2.2 (box_below wx o)⟩
theorem sc_drew (h : wx.cell? ⟨b0, o0, none⟩ = some u ∧ wx.cell? ⟨b0, o1, none⟩ = some v ∧ Below W0.heap.size W0 wx) : wx.drew.cell? ⟨b0, o0, none⟩ = some u ∧ wx.drew.cell? ⟨b0, o1, none⟩ = some v ∧ Below W0.heap.size W0 wx.drew := ⟨h.1, h.2.1, h.2.2.drew⟩
theorem sc_set {g o : Nat} {z : Value} (hD : b0 < W0.heap.size) (hg : W0.heap.size ≤ g) (h : wx.cell? ⟨b0, o0, none⟩ = some u ∧ wx.cell? ⟨b0, o1, none⟩ = some v ∧ Below W0.heap.size W0 wx) : (wx.setCell ⟨g, o, none⟩ z).cell? ⟨b0, o0, none⟩ = some u ∧ (wx.setCell ⟨g, o, none⟩ z).cell? ⟨b0, o1, none⟩ = some v ∧ Below W0.heap.size W0 (wx.setCell ⟨g, o, none⟩ z) :=
  ⟨cs1 (by omega) h.1, cs1 (by omega) h.2.1, below_setC h.2.2 hg⟩
theorem sc_made {w9 : World} (h : wx.cell? ⟨b0, o0, none⟩ = some u ∧ wx.cell? ⟨b0, o1, none⟩ = some v ∧ Below W0.heap.size W0 wx) (hb : Below wx.heap.size wx w9) : w9.cell? ⟨b0, o0, none⟩ = some u ∧ w9.cell? ⟨b0, o1, none⟩ = some v ∧ Below W0.heap.size W0 w9 := ⟨cell_keep hb h.1 (cell_lt h.1), cell_keep hb h.2.1 (cell_lt h.2.1), below_step h.2.2 hb⟩
end
theorem cf_keep {W w9 : World} {b o : Nat} {u : Value} (hb : Below W.heap.size W w9) (h : W.cell? ⟨b, o, none⟩ = some u) (hf : W.frozen? ⟨b, o, none⟩ = false) : w9.cell? ⟨b, o, none⟩ = some u ∧ w9.frozen? ⟨b, o, none⟩ = false ∧ b < w9.heap.size :=
  ⟨cell_keep hb h (cell_lt h), (World.frozen?_of_block (w := W) (a := ⟨b, o, none⟩) (hb.block b (cell_lt h))).trans hf, Nat.lt_of_lt_of_le (cell_lt h) hb.size⟩

def madeAt (k : Nat) (cs : List (List WayD)) : List (List WayD) := cs.mapIdx fun i row => if i < k then List.replicate row.length zeroW else []
theorem madeAt_0 (cs : List (List WayD)) : madeAt 0 cs = List.replicate cs.length [] := by
  apply List.ext_getElem?
  intro i
  rw [madeAt, List.getElem?_mapIdx, List.getElem?_replicate]
  by_cases h : i < cs.length
  · simp [h]
  · simp [h]
theorem madeAt_get {k : Nat} {cs : List (List WayD)} (h : k < cs.length) : (madeAt k cs)[k]? = some [] := by
  rw [madeAt, List.getElem?_mapIdx, List.getElem?_eq_getElem h]
  simp
theorem madeAt_put {k : Nat} {cs : List (List WayD)} {row : List WayD} (h : cs[k]? = some row) : (madeAt k cs).set k (List.replicate row.length zeroW) = madeAt (k + 1) cs := by
  have hl := (List.getElem?_eq_some_iff.1 h).1
  apply List.ext_getElem?
  intro i
  by_cases hi : k = i
  · subst hi
    rw [List.getElem?_set_self (by simpa [madeAt] using hl), madeAt, List.getElem?_mapIdx, h]
    simp
  · rw [List.getElem?_set_ne hi, madeAt, madeAt, List.getElem?_mapIdx, List.getElem?_mapIdx]
    cases cs[i]? with
    | none => rfl
    | some r =>
      simp only [Option.map_some, Option.some.injEq]
      by_cases h1 : i < k
      · rw [if_pos h1, if_pos (by omega)]
      · rw [if_neg h1, if_neg (by omega)]
theorem madeAt_all (m : Nat) (cs : List (List WayD)) : madeAt cs.length cs = copyAt m 0 cs := by
  rw [copyAt_zero]
  apply List.ext_getElem?
  intro i
  rw [madeAt, List.getElem?_mapIdx, List.getElem?_map]
  cases h : cs[i]? with
  | none => rfl
  | some row => simp [(List.getElem?_eq_some_iff.1 h).1]
theorem heap_at' {W : World} {o : Obj} {k : Nat} (e : W.heap.size = k) : (W.alloc o).heap[k]? = some o := e ▸ heap_at W o
theorem copy_start {w W0 W' : World} {pa cb n : Nat} {Tf : Foot} {box : Obj} {v : Value} {ts : List Int} (hm : n ≤ maxLen) (hB : Below w.heap.size w W0) (hX : W0.heap[w.heap.size]? = some box) (hY : W0.heap[w.heap.size + 1]? = some (.cells #[.slice none 0 0, .slice none 0 0] 35 (0, 0))) (B : Below W0.heap.size W0 W')
    (h1 : W'.heap[pa]? = some (.cells (madeCells #[.slice none 0 0] n) 80 (0, 0))) (h2 : intsR.own W' Tf [v] ts) (h3 : W'.heap[cb]? = some (.cells #[.slice (some ⟨pa, 0, none⟩) n n, v] 35 (0, 0))) : CopyI w W'.heap.size pa cb n Tf box v ts (List.replicate n []) W' :=
  ⟨nils_at h1 ⟨.inl rfl, (Array.getElem?_eq_some_iff.1 h1).1⟩ hm, h3, row_keep B hY, row_keep B hX, h2, below_step hB B, Nat.le_refl _⟩

theorem own_grown9 {α : Type} {R : Rep α} {X Y : World} {row : Option Nat} {S : Foot} {cs : List Value} {x : α} (h : R.own X S cs x) (hg : X.grownBy Y row) (hr : ∀ r, row = some r → ∃ o : Obj, X.heap[r]? = some o ∧ o.isCells = false) : R.own Y S cs x :=
  R.own_mono (R.own_keep (R.own_tight h) (fun k hk hl => hg.block k hl (fun e => by
    obtain ⟨_, cur, t, _, hh⟩ := hk
    obtain ⟨o, ho, hc⟩ := hr k e.symm
    rw [hh] at ho
    cases ho
    cases hc))) (fun k hk => hk.1)
/- What holds between two rounds: the store as far as it is copied, the list of its sets as it was, the box of the iterator. -/
def CopyR (w : World) (t pa cb n G : Nat) (Tf : Foot) (bc pc : Array Value) (v : Value) (ts : List Int) (xss : List (List WayD)) (W : World) : Prop :=
  CopyI w t pa cb n Tf (.cells bc 35 (0, 0)) v ts xss W ∧ W.heap[pa]? = some (.cells pc 80 (0, 0)) ∧ W.heap[G]? = some (.cells bc 35 (0, 0))
theorem copyR_own {w : World} {t pa cb n G B : Nat} {Tf : Foot} {bc pc : Array Value} {v : Value} {ts : List Int} {f : Nat → List (List WayD)} (hB : w.heap.size ≤ B) : OwnFrom B (fun k W => CopyR w t pa cb n G Tf bc pc v ts (f k) W) := by
  rintro k X Y row ⟨⟨h1, h2, h3, h4, h5, h6, h7⟩, h8, h9⟩ hg hr
  have hr' : ∀ r, row = some r → ∃ o : Obj, X.heap[r]? = some o ∧ o.isCells = false := fun r e => (hr r e).2
  have hs := hg.size
  exact ⟨⟨setsR.own_mono (own_grown9 h1 hg hr') (fun k hk => ⟨hk.1, by have := hk.2; omega⟩), own_heap (β := Unit) _ _ _ _ () X Y row h2 hg hr, own_heap (β := Unit) _ _ _ _ () X Y row h3 hg hr, own_heap (β := Unit) _ _ _ _ () X Y row h4 hg hr, own_grown9 h5 hg hr', ownFrom_below (β := Unit) (Nat.le_refl _) hB () X Y row h6 hg hr, by omega⟩, own_heap (β := Unit) _ _ _ _ () X Y row h8 hg hr, own_heap (β := Unit) _ _ _ _ () X Y row h9 hg hr⟩
theorem copyR_below {w W W' : World} {t pa cb n G : Nat} {Tf : Foot} {bc pc : Array Value} {v : Value} {ts : List Int} {xss : List (List WayD)} (h : CopyR w t pa cb n G Tf bc pc v ts xss W) (hb : Below W.heap.size W W') : CopyR w t pa cb n G Tf bc pc v ts xss W' :=
  ⟨copy_next h.1 hb, row_keep hb h.2.1, row_keep hb h.2.2⟩
theorem copyR_start {w wr W0 : World} {t pa cb n : Nat} {Tf : Foot} {bc : Array Value} {v : Value} {ts : List Int} {xss : List (List WayD)} (h : CopyI w t pa cb n Tf (.cells bc 35 (0, 0)) v ts xss wr) (hn : n = xss.length) (hne : ∀ row ∈ xss, row ≠ []) (h0 : 0 < n) (hb : Below wr.heap.size wr W0) (hG : W0.heap[wr.heap.size]? = some (.cells bc 35 (0, 0))) :
    ∃ pc, CopyR w t pa cb n wr.heap.size Tf bc pc v ts xss W0 ∧ ∀ (s g2 k cp : Nat), s < n → pc[s]? = some (.slice (some ⟨g2, 0, none⟩) k cp) → g2 < wr.heap.size := by
  obtain ⟨g, cap, cur, Sj, T, c', hv, hSg, hg, -⟩ := slown_focus h.1 (List.getElem?_eq_getElem (show 0 < xss.length by omega))
  simp only [Value.slice.injEq, Option.some.injEq, Addr.mk.injEq, and_true] at hv
  obtain ⟨rfl, -⟩ := hv
  refine ⟨cur, ⟨copy_next h hb, row_keep hb hg, hG⟩, fun s g2 k cp hs hc => ?_⟩
  have hsl : s < xss.length := by omega
  have hr : 0 < (xss[s]).length := List.length_pos_iff.2 (hne _ (List.getElem_mem hsl))
  obtain ⟨g', cap', g2', cap2', e1, hcell, -, -, -, -, hl, -⟩ := own_put_at h.1 (List.getElem?_eq_getElem hsl) (List.getElem?_eq_getElem hr)
  simp only [Value.slice.injEq, Option.some.injEq, Addr.mk.injEq, and_true] at e1
  obtain ⟨rfl, -⟩ := e1
  rw [cell_of_row wr pa s _ _ (0, 0) hg, hc] at hcell
  simp only [Option.some.injEq, Value.slice.injEq, Addr.mk.injEq, and_true] at hcell
  rw [hcell.1]
  exact hl
theorem copyR_step {w W W' : World} {t pa cb n G s r : Nat} {Tf : Foot} {bc pc : Array Value} {v : Value} {ts : List Int} {xss yss : List (List WayD)} (L : Lies w.heap.size t pa cb Tf) (h : CopyR w t pa cb n G Tf bc pc v ts xss W) (hrow : ∀ (s g2 k cp : Nat), s < n → pc[s]? = some (.slice (some ⟨g2, 0, none⟩) k cp) → g2 < G) (hs : s < n)
    (ho : setsR.own W' (fun k => Old W (Rooms t pa W) k ∨ (W.heap.size ≤ k ∧ k < W'.heap.size)) [.slice (some ⟨pa, 0, none⟩) n n] yss)
    (hx : ∃ g cap g2 cap2, (.slice (some ⟨pa, 0, none⟩) n n : Value) = .slice (some ⟨g, 0, none⟩) xss.length cap ∧ W.cell? ⟨g, s, none⟩ = some (.slice (some ⟨g2, 0, none⟩) r cap2) ∧ g ≠ g2 ∧ Old W (Rooms t pa W) g2 ∧ Chg (fun k => k = g2) W W') :
    CopyR w t pa cb n G Tf bc pc v ts yss W' ∧ ∃ g2, g2 < G ∧ Chg (fun k => k = g2) W W' := by
  obtain ⟨h1, h2, h3⟩ := h
  obtain ⟨g, cap, g2, cap2, e1, hcell, hne, hS, hc⟩ := hx
  simp only [Value.slice.injEq, Option.some.injEq, Addr.mk.injEq, and_true] at e1
  obtain ⟨rfl, -⟩ := e1
  rw [cell_of_row W pa s _ _ (0, 0) h2] at hcell
  have hl := hrow s g2 r cap2 hs hcell
  exact ⟨⟨copy_put L h1 ho (hc.mono fun k hk => by have e : k = g2 := hk; rw [e]; exact hS), (hc.block pa (Array.getElem?_eq_some_iff.1 h2).1 (fun e => hne e)).trans h2, (hc.block G (Array.getElem?_eq_some_iff.1 h3).1 (fun e => by have e' : G = g2 := e; omega)).trans h3⟩, g2, hl, hc⟩


end Go.Proofs.Ytbcggkfbahmpoaa
