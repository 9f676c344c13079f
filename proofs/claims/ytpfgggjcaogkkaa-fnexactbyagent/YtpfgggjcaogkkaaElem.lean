
/- A struct that lies at some place of a block (a box, an element of a list, a field of another struct): its cells, one set, others kept; what it owns. No program here. -/
import Derived.Test.YtpfgggjcaogkkaaDrawBox
namespace Go.Proofs.Ytpfgggjcaogkkaa
open Go.ChangeShapes Go.WideShapes Go.ChangeAt Go.RowKit
set_option linter.unusedVariables false
variable {α : Type}

/-- From off on the cells cs lie in block G, which nobody has frozen. -/
def At (w : World) (t : TypeId) (G off : Nat) (cs : List Value) : Prop := ∃ cur, w.heap[G]? = some (.cells cur t (0, 0)) ∧ off + cs.length ≤ cur.size ∧ ∀ j, j < cs.length → cur[off + j]? = cs[j]?
theorem at_lt {w : World} {t : TypeId} {G off : Nat} {cs : List Value} (h : At w t G off cs) : G < w.heap.size := by
  obtain ⟨cur, h1, _⟩ := h
  exact (Array.getElem?_eq_some_iff.1 h1).1
theorem at_cell {w : World} {t : TypeId} {G off : Nat} {cs : List Value} (h : At w t G off cs) (j : Nat) {v : Value} (hv : cs[j]? = some v) : w.cell? ⟨G, off + j, none⟩ = some v := by
  obtain ⟨cur, h1, _, h3⟩ := h
  rw [cell_of_row w G _ cur t (0, 0) h1, h3 j (List.getElem?_eq_some_iff.1 hv).1]
  exact hv
theorem at_cell0 {w : World} {t : TypeId} {G : Nat} {off : Nat} {cs : List Value} {v : Value} (h : At w t G off (v :: cs)) : w.cell? ⟨G, off, none⟩ = some v := at_cell h 0 rfl
theorem at_froz {w : World} {t : TypeId} {G off : Nat} {cs : List Value} (h : At w t G off cs) (j : Nat) : w.frozen? ⟨G, off + j, none⟩ = false := by
  obtain ⟨cur, h1, _⟩ := h
  exact frozen_of_row w G _ _ t h1
theorem at_froz0 {w : World} {t : TypeId} {G off : Nat} {cs : List Value} (h : At w t G off cs) : w.frozen? ⟨G, off, none⟩ = false := at_froz h 0
theorem at_box {w : World} {t : TypeId} {G : Nat} {cs : List Value} (h : w.heap[G]? = some (.cells cs.toArray t (0, 0))) : At w t G 0 cs := ⟨_, h, by simp, fun j hj => by simp⟩
theorem at_new (w : World) (t : TypeId) (cs : List Value) : At (w.alloc (.cells cs.toArray t)) t w.heap.size 0 cs := at_box (heap_at w _)
theorem at_keep {w w' : World} {t : TypeId} {G off : Nat} {cs : List Value} (h : At w t G off cs) (hk : w'.heap[G]? = w.heap[G]?) : At w' t G off cs := by
  obtain ⟨cur, h1, h2⟩ := h
  exact ⟨cur, hk.trans h1, h2⟩
theorem at_below {w w' : World} {t : TypeId} {G off : Nat} {cs : List Value} {D : Nat} (h : At w t G off cs) (hb : Below D w w') (hl : G < D) : At w' t G off cs := at_keep h (hb.block G hl)
theorem at_next {w w' : World} {t : TypeId} {G off : Nat} {cs : List Value} (h : At w t G off cs) (hb : Below w.heap.size w w') : At w' t G off cs := at_below h hb (at_lt h)
theorem at_chg {w w' : World} {t : TypeId} {G off : Nat} {cs : List Value} {S : Foot} (h : At w t G off cs) (hc : Chg S w w') (hn : ¬ S G) : At w' t G off cs := at_keep h (hc.block G (at_lt h) hn)
theorem at_sub {w : World} {t : TypeId} {G off : Nat} {a b c : List Value} (h : At w t G off (a ++ b ++ c)) : At w t G (off + a.length) b := by
  obtain ⟨cur, h1, h2, h3⟩ := h
  simp only [List.length_append] at h2 h3
  refine ⟨cur, h1, by omega, fun j hj => ?_⟩
  have := h3 (a.length + j) (by omega)
  rw [Nat.add_assoc, this, List.append_assoc, List.getElem?_append_right (by omega)]
  rw [show a.length + j - a.length = j by omega, List.getElem?_append_left hj]
/-- One cell set. -/
theorem at_set {w : World} {t : TypeId} {G off : Nat} {cs cs' : List Value} (h : At w t G off cs) (j : Nat) (v : Value) (e : cs' = cs.set j v) : At (w.setCell ⟨G, off + j, none⟩ v) t G off cs' := by
  obtain ⟨cur, h1, h2, h3⟩ := h
  subst e
  refine ⟨_, heap_setCell_same w G (off + j) cur t v h1, by simpa using h2, fun i hi => ?_⟩
  rw [List.length_set] at hi
  by_cases hij : i = j
  · subst hij
    rw [Array.getElem?_setIfInBounds_self_of_lt (by omega), List.getElem?_set_self hi]
  · rw [Array.getElem?_setIfInBounds_ne (by omega), List.getElem?_set_ne (by omega)]
    exact h3 i hi
theorem at_set0 {w : World} {t : TypeId} {G off : Nat} {v u : Value} {cs : List Value} (h : At w t G off (u :: cs)) : At (w.setCell ⟨G, off, none⟩ v) t G off (v :: cs) := at_set h 0 v rfl
/-- Of block G nothing but the n cells from off on has turned. -/
def In (G off n : Nat) (w w' : World) : Prop := ∀ cur t, w.heap[G]? = some (.cells cur t (0, 0)) → ∃ cur' : Array Value, w'.heap[G]? = some (.cells cur' t (0, 0)) ∧ cur'.size = cur.size ∧ ∀ i, i < off ∨ off + n ≤ i → cur'[i]? = cur[i]?
theorem In.refl (G off n : Nat) (w : World) : In G off n w w := fun cur t h => ⟨cur, h, rfl, fun _ _ => rfl⟩
theorem In.trans {G off n : Nat} {a b c : World} (h : In G off n a b) (k : In G off n b c) : In G off n a c := fun cur t hc => by
  obtain ⟨c1, e1, s1, q1⟩ := h cur t hc
  obtain ⟨c2, e2, s2, q2⟩ := k c1 t e1
  exact ⟨c2, e2, s2.trans s1, fun i hi => (q2 i hi).trans (q1 i hi)⟩
theorem In.same {G off n : Nat} {w w' : World} (h : w'.heap[G]? = w.heap[G]?) : In G off n w w' := fun cur t hc => ⟨cur, h.trans hc, rfl, fun _ _ => rfl⟩
theorem In.set {G off n j : Nat} {w : World} {v : Value} (hj : j < n) : In G off n w (w.setCell ⟨G, off + j, none⟩ v) := fun cur t hc =>
  ⟨_, heap_setCell_same w G (off + j) cur t v hc, by simp, fun i hi => Array.getElem?_setIfInBounds_ne (by omega)⟩
theorem In.mono {G off n off' n' : Nat} {w w' : World} (h : In G off n w w') (h1 : off' ≤ off) (h2 : off + n ≤ off' + n') : In G off' n' w w' := fun cur t hc => by
  obtain ⟨c1, e1, s1, q1⟩ := h cur t hc
  exact ⟨c1, e1, s1, fun i hi => q1 i (by omega)⟩
theorem at_in {w w' : World} {t : TypeId} {G off o n : Nat} {cs : List Value} (h : At w t G off cs) (hi : In G o n w w') (hd : off + cs.length ≤ o ∨ o + n ≤ off) : At w' t G off cs := by
  obtain ⟨cur, h1, h2, h3⟩ := h
  obtain ⟨c1, e1, s1, q1⟩ := hi cur t h1
  exact ⟨c1, e1, by omega, fun j hj => (q1 (off + j) (by omega)).trans (h3 j hj)⟩

/-- A struct at a place, and what it owns alone. -/
structure Obj1 (R : Rep α) (t : TypeId) (w : World) (G off : Nat) (S : Foot) (cs : List Value) (x : α) : Prop where
  lies : At w t G off cs
  own : R.own w S cs x
  out : ¬ S G
/-- Nothing has turned but the struct at its place, what it owned, and what is new. -/
structure Turn (G off n : Nat) (S : Foot) (w w' : World) : Prop where
  chg : Chg (fun k => S k ∨ k = G) w w'
  row : In G off n w w'
theorem Turn.refl (G off n : Nat) (S : Foot) (w : World) : Turn G off n S w w := ⟨Chg.refl _ _, In.refl _ _ _ _⟩
theorem Turn.mono {G off n : Nat} {S T : Foot} {w w' : World} (h : Turn G off n S w w') (hs : Sub S T) : Turn G off n T w w' := ⟨h.chg.mono (fun k hk => hk.imp (hs k) id), h.row⟩
/-- What is new since w may turn too. -/
theorem Turn.trans {G off n : Nat} {S S' : Foot} {a b c : World} (h : Turn G off n S a b) (k : Turn G off n S' b c) (hS : ∀ k, S' k → S k ∨ (a.heap.size ≤ k)) : Turn G off n S a c := by
  refine ⟨⟨k.chg.os.trans h.chg.os, k.chg.tape.trans h.chg.tape, k.chg.output.trans h.chg.output, Nat.le_trans h.chg.size k.chg.size, fun j hj hn => ?_⟩, h.row.trans k.row⟩
  have hb := h.chg.size
  refine (k.chg.block j (by omega) (fun hx => ?_)).trans (h.chg.block j hj hn)
  rcases hx with hx | hx
  · rcases hS j hx with h1 | h1
    · exact hn (.inl h1)
    · omega
  · exact hn (.inr hx)
theorem turn_below {G off n : Nat} {S : Foot} {w w' : World} (h : Below w.heap.size w w') (hg : G < w.heap.size) : Turn G off n S w w' := ⟨chg_below h, In.same (h.block G hg)⟩
theorem turn_set {G off n j : Nat} {S : Foot} {w : World} {v : Value} (hj : j < n) : Turn G off n S w (w.setCell ⟨G, off + j, none⟩ v) :=
  ⟨⟨rfl, rfl, rfl, by simp, fun k _ hn => heap_setCell_other w ⟨G, off + j, none⟩ k v (fun e => hn (.inr e))⟩, In.set hj⟩
theorem turn_chg {G off n : Nat} {S : Foot} {w w' : World} (h : Chg S w w') (hg : ¬ S G) (hl : G < w.heap.size) : Turn G off n S w w' := ⟨h.mono (fun _ hk => .inl hk), In.same (h.block G hl hg)⟩
/-- One element of an owned list by itself, as a struct at its place, and the way back. -/
theorem elem_focus {e : TypeId} {R : Rep α} {w : World} {S : Foot} {v : Value} {xs : List α} {j : Nat} {x : α} (h : (slR e R).own w S [v] xs) (hx : xs[j]? = some x) :
    ∃ g cap Sj T c, v = .slice (some ⟨g, 0, none⟩) xs.length cap ∧ S g ∧ Obj1 R e w g (j * R.size) Sj c x ∧ Sub Sj S ∧ Sub T S ∧ Dis Sj T ∧ ¬ T g ∧
      ∀ w' c' x' U V, Obj1 R e w' g (j * R.size) U c' x' → In g (j * R.size) R.size w w' → Keeps T w w' → Dis U T → V g → Sub U V → Sub T V → (slR e R).own w' V [v] (xs.set j x') := by
  obtain ⟨g, cap, cur, Sj, T, c, hv, hSg, hg, hc, hcl, ho, s1, s2, hd, n1, n2, back⟩ := slown_focus h hx
  have hsz : j * R.size + R.size ≤ cur.size ∨ R.size = 0 := by
    by_cases h0 : R.size = 0
    · exact .inr h0
    · left
      have h1 := hc (R.size - 1) (by omega)
      have h2 : (R.size - 1) < c.length := by omega
      rw [List.getElem?_eq_getElem h2] at h1
      have := (Array.getElem?_eq_some_iff.1 h1).1
      omega
  have hle : j * R.size + R.size ≤ cur.size := by
    rcases hsz with h1 | h0
    · exact h1
    · rw [h0]; simp
  refine ⟨g, cap, Sj, T, c, hv, hSg, ⟨⟨cur, hg, by omega, fun i hi => hc i (by omega)⟩, ho, n1⟩, s1, s2, hd, n2, ?_⟩
  intro w' c' x' U V ob hin hk hd2 hV hU hT
  obtain ⟨cur', e1, e2, e3⟩ := hin cur e hg
  obtain ⟨cur2, f1, f2, f3⟩ := ob.lies
  have hcc : cur2 = cur' := by rw [e1] at f1; simp at f1; exact f1.symm
  subst hcc
  have hcl' := R.rd_len (R.own_rd ob.own)
  exact back w' cur2 c' x' U V e1 e2 (fun i hi => e3 i (by omega)) (fun i hi => f3 i (by omega)) hk ob.own hd2 ob.out hV hU hT
/-- One cell of one element is set, the element owns what it owned: a number or a flag. -/
theorem elem_set {e : TypeId} {R : Rep α} {w : World} {S : Foot} {g n cap : Nat} {xs : List α} {j i : Nat} {x x' : α} {v : Value} (h : (slR e R).own w S [.slice (some ⟨g, 0, none⟩) n cap] xs) (hx : xs[j]? = some x) (hi : i < R.size) (hc : ∀ c, R.rd w c x → (∀ W T, R.own W T c x → R.own W T (c.set i v) x')) :
    (slR e R).own (w.setCell ⟨g, j * R.size + i, none⟩ v) S [.slice (some ⟨g, 0, none⟩) n cap] (xs.set j x') := by
  obtain ⟨g1, cap1, Sj, T, c1, hv, hSg, ob, s1, s2, hd, n2, back⟩ := elem_focus h hx
  simp only [Value.slice.injEq, Option.some.injEq, Addr.mk.injEq, and_true] at hv
  obtain ⟨rfl, -, rfl⟩ := hv
  have hk : ∀ F : Foot, ¬ F g → Keeps F w (w.setCell ⟨g, j * R.size + i, none⟩ v) := fun F hF k hk _ => heap_setCell_other w ⟨g, j * R.size + i, none⟩ k v (fun e => hF (by have e' : k = g := e; rw [← e']; exact hk))
  exact back _ (c1.set i v) x' Sj S ⟨at_set ob.lies i v rfl, hc c1 (R.own_rd ob.own) _ _ (R.own_keep ob.own (hk Sj ob.out)), ob.out⟩ (In.set hi) (hk T n2) hd hSg s1 s2
/-- One cell of one element is set, and the element owns another thing then. -/
theorem elem_put {e : TypeId} {R : Rep α} {w : World} {S U : Foot} {g n cap : Nat} {xs : List α} {j i : Nat} {x x' : α} {v : Value} (h : (slR e R).own w S [.slice (some ⟨g, 0, none⟩) n cap] xs) (hx : xs[j]? = some x) (hi : i < R.size) (hU : Dis U S) (hc : ∀ c, R.rd w c x → R.own w U (c.set i v) x') :
    (slR e R).own (w.setCell ⟨g, j * R.size + i, none⟩ v) (fun k => S k ∨ U k) [.slice (some ⟨g, 0, none⟩) n cap] (xs.set j x') := by
  obtain ⟨g1, cap1, Sj, T, c1, hv, hSg, ob, s1, s2, hd, n2, back⟩ := elem_focus h hx
  simp only [Value.slice.injEq, Option.some.injEq, Addr.mk.injEq, and_true] at hv
  obtain ⟨rfl, -, rfl⟩ := hv
  have hk : ∀ F : Foot, ¬ F g → Keeps F w (w.setCell ⟨g, j * R.size + i, none⟩ v) := fun F hF k hk _ => heap_setCell_other w ⟨g, j * R.size + i, none⟩ k v (fun e => hF (by have e' : k = g := e; rw [← e']; exact hk))
  have nU : ¬ U g := fun hu => hU g hu hSg
  exact back _ (c1.set i v) x' U _ ⟨at_set ob.lies i v rfl, R.own_keep (hc c1 (R.own_rd ob.own)) (hk U nU), nU⟩ (In.set hi) (hk T n2) (fun k a b => hU k a (s2 k b)) (.inl hSg) (fun k h => .inr h) (fun k h => .inl (s2 k h))
end Go.Proofs.Ytpfgggjcaogkkaa
