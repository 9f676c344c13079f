/- A store that is drawn and then turned once: one way, one tree, its sets but the first, one way more. No condition. -/
import Derived.Test.YtnalbbfilejokaaDrawSto
import Derived.Test.YtnalbbfilejokaaNewImpl
import Derived.Test.YtnalbbfilejokaaTouch
namespace Go.Proofs.Ytnalbbfilejokaa
open Go.ChangeShapes Go.WideShapes Go.ChangeAt Go.RowKit
set_option linter.unusedVariables false

def SmallC (c : CacheD) : Prop := c.1.length ≤ 4 ∧ c.2.length ≤ 4 ∧ ∀ row ∈ c.1, row.length ≤ 5
theorem small_ok {c : CacheD} (h : OkC isL treeB c) : SmallC c := by
  obtain ⟨h1, h2, m, hm, h3⟩ := h
  unfold pow3 at h1 hm
  refine ⟨by omega, by omega, fun row hr => ?_⟩
  obtain ⟨s, hs⟩ := List.getElem?_of_mem hr
  have := (h3 s row hs).1
  omega
theorem ok_first {c : CacheD} (h : OkC isL treeB c) : ∃ row old t, c.1[0]? = some row ∧ row[0]? = some old ∧ row.length ≤ 4 ∧ c.2[0]? = some t := by
  obtain ⟨h1, h2, m, hm, h3⟩ := h
  unfold pow3 at h1 hm
  obtain ⟨row, hrow⟩ : ∃ row, c.1[0]? = some row := ⟨_, List.getElem?_eq_getElem (by omega)⟩
  obtain ⟨q1, ⟨t, q2, -⟩, -⟩ := h3 0 row hrow
  exact ⟨row, _, t, hrow, List.getElem?_eq_getElem (by omega), by omega, q2⟩
theorem small_set {c : CacheD} {row : List WayD} (h : SmallC c) (hr : row.length ≤ 5) (ts : List Int) (ht : ts.length ≤ 4) : SmallC (c.1.set 0 row, ts) := by
  refine ⟨by rw [List.length_set]; exact h.1, ht, fun r hm => ?_⟩
  rcases List.mem_or_eq_of_mem_set hm with h2 | h2
  · exact h.2.2 r h2
  · rw [h2]; exact hr

/-- A store in a box that is only read from now on, whatever becomes of the result's block. -/
structure DRead (B g : Nat) (w wr : World) (mb : Nat) (c : CacheD) (n1 n2 : Nat) (av : Option Addr) (cv : Nat) (bv : Option Addr) (dv : Nat) : Prop where
  ln : c.1.length = n1 ∧ c.2.length = n2
  box : wr.heap[mb]? = some (.cells #[.slice av n1 cv, .slice bv n2 dv] 27 (0, 0))
  res : wr.heap[w.heap.size]? = some (.cells #[.slice none 0 0, .slice none 0 0] 27 (0, 0))
  rd : ∀ W' : World, (∀ k, w.heap.size < k → k < wr.heap.size → W'.heap[k]? = wr.heap[k]?) → SlRd waysR W' av c.1 ∧ SlRd intR W' bv c.2
  sm : SmallC c
  cur : Cur B wr g
  chg : Chg (fun b => b = g) w wr
  lt : w.heap.size < mb ∧ mb < wr.heap.size ∧ g < w.heap.size ∧ B ≤ g
theorem sets_rd_at {w : World} {S : Foot} {av : Option Addr} {n cv : Nat} {cs : List (List WayD)} (h : setsR.own w S [.slice av n cv] cs) : SlRd waysR w av cs := by
  obtain ⟨a, cap, e, hr⟩ := sets_rd h
  simp only [Value.slice.injEq] at e
  rw [e.1]
  exact hr
theorem dr_own {B g mb n1 n2 : Nat} {w wr : World} {c : CacheD} {av bv : Option Addr} {cv dv : Nat} (h : DSto B g w wr mb c (.slice av n1 cv) bv dv) (h1 : c.1.length = n1) (h2 : c.2.length = n2) (hs : SmallC c) : DRead B g w wr mb c n1 n2 av cv bv dv := by
  subst h1 h2
  obtain ⟨S, S2, o1, o2, hd, f1, f2⟩ := h.own
  refine ⟨⟨rfl, rfl⟩, h.box, h.res, fun W' hk => ⟨?_, ?_⟩, hs, h.cur, h.chg, h.lt⟩
  · exact sets_rd_at (setsR.own_keep o1 fun k hS hl => hk k (f1 k hS).1 hl)
  · exact ints_rd (intsR.own_keep o2 fun k hS hl => hk k (f2 k hS).1 hl)
/-- What the draw of a store, right or not, leaves. -/
def DrawSP (B g : Nat) (w : World) (e : Ending) (w' : World) : Prop :=
  ∃ c av cv bv dv, e = .returned (.agg #[.slice av c.1.length cv, .slice bv c.2.length dv]) ∧ SmallC c ∧ (∀ W' : World, (∀ k, w.heap.size < k → k < w'.heap.size → W'.heap[k]? = w'.heap[k]?) → SlRd waysR W' av c.1 ∧ SlRd intR W' bv c.2) ∧ Cur B w' g ∧ Chg (fun b => b = g) w w'
theorem dr_end {B g mb n1 n2 : Nat} {w wr : World} {c : CacheD} {av v0 : Option Addr} {cv cp : Nat} {a : Act} (h : DRead B g w wr mb c n1 n2 av cv v0 cp) (ha : a.tmps[2]? = some (.pointer (some ⟨w.heap.size, 0, none⟩))) (hdf : a.defers = []) :
    bodyPost Try.prog Try.f37 (fun e w' => DrawSP B g w e w') Exit.ret a ((wr.setCell ⟨w.heap.size, 0, none⟩ (.slice av n1 cv)).setCell ⟨w.heap.size, 1, none⟩ (.slice v0 n2 cp)) := by
  obtain ⟨l2, l3, l4, l5⟩ := h.lt
  obtain ⟨e1, e2⟩ := h.ln
  obtain ⟨r0, r1⟩ := cells_two (put2 (a := .slice av n1 cv) (b := .slice v0 n2 cp) h.res)
  have c7 := put2_chg (w := wr) (g := w.heap.size) (v0 := .slice av n1 cv) (v1 := .slice v0 n2 cp)
  generalize (wr.setCell ⟨w.heap.size, 0, none⟩ (.slice av n1 cv)).setCell ⟨w.heap.size, 1, none⟩ (.slice v0 n2 cp) = W at r0 r1 c7 ⊢
  have hz := c7.size
  exact bodyPost_ret (v := .agg #[.slice av n1 cv, .slice v0 n2 cp]) (by simp [results, Try.results37, go_sem, ha, r0, r1]) hdf ⟨c, av, cv, v0, cp, by rw [e1, e2], h.sm, fun W' hk => h.rd W' (fun k h1 hl => (hk k h1 (by omega)).trans (c7.block k hl (by omega))), cur_chg h.cur c7 (fun k hk => by omega) (by omega), chg_join h.chg c7 (fun j hj => by omega)⟩
theorem ds_of_drew {B g : Nat} {w w1 : World} {c : CacheD} {av bv : Option Addr} {cv dv : Nat} (hg : g < w.heap.size) (hB : B ≤ g) (h : DrewR cacheR B g (w.alloc (.cells #[.slice none 0 0, .slice none 0 0] 27)) w1 [.slice av c.1.length cv, .slice bv c.2.length dv] c) :
    DSto B g w (w1.alloc (.cells #[.slice av c.1.length cv, .slice bv c.2.length dv] 27)) w1.heap.size c (.slice av c.1.length cv) bv dv := by
  have hs := h.chg.size
  have e1 : (w.alloc (.cells #[.slice none 0 0, .slice none 0 0] 27)).heap.size = w.heap.size + 1 := by simp
  have R : w1.heap[w.heap.size]? = some (.cells #[.slice none 0 0, .slice none 0 0] 27 (0, 0)) := (h.chg.block _ (by omega) (by omega)).trans (heap_at w _)
  exact ds_newB h.cur R ((chg_below (box_below w _)).trans h.chg) h.own (by omega) hg hB

/-- One way put anew: what is put is owned beside the store. -/
theorem own_put_sep {W : World} {S T : Foot} {u c1 c2 c3 : Value} {cs : List (List WayD)} {s j : Nat} {row : List WayD} {old x : WayD} (h : setsR.own W S [u] cs) (hs : cs[s]? = some row) (hj : row[j]? = some old) (hx : wayR.own W T [c1, c2, c3] x) (hST : Dis S T) :
    ∃ g cap g2 cap2, u = .slice (some ⟨g, 0, none⟩) cs.length cap ∧ W.cell? ⟨g, s, none⟩ = some (.slice (some ⟨g2, 0, none⟩) row.length cap2) ∧ S g ∧ S g2 ∧ g ≠ g2 ∧ g2 < W.heap.size ∧
      (∃ cur, W.heap[g2]? = some (.cells cur 29 (0, 0)) ∧ j * 3 + 2 < cur.size) ∧
      setsR.own (set3 W g2 (j * 3) c1 c2 c3) (fun k => S k ∨ T k) [u] (cs.set s (row.set j x)) ∧ Chg (fun k => k = g2) W (set3 W g2 (j * 3) c1 c2 c3) := by
  obtain ⟨g, cap, cur, Sj, T1, c', hv, hSg, hg, hc, hcl, ho, s1, s2, hd, n1, n2, back⟩ := slown_focus h hs
  have e1 : waysR.size = 1 := rfl
  simp only [e1, Nat.mul_one] at hc back
  obtain ⟨u2, rfl⟩ : ∃ u2, c' = [u2] := List.length_eq_one_iff.1 hcl
  obtain ⟨g2, cap2, cur2, Sj2, T2, c2', hv2, hSg2, hg2, hc2, hcl2, ho2, t1, t2, hd2, k1, k2, back2⟩ := slown_focus ho hj
  subst hv2
  subst hv
  have e3 : wayR.size = 3 := rfl
  simp only [e3] at hc2 back2
  have hne : g ≠ g2 := fun e => n1 (e ▸ hSg2)
  have hck : cur[s]? = some (.slice (some ⟨g2, 0, none⟩) row.length cap2) := by simpa using hc 0 (by decide)
  have hl2 := (Array.getElem?_eq_some_iff.1 hg2).1
  have hl := (Array.getElem?_eq_some_iff.1 hg).1
  have hc2l : c2'.length = 3 := hcl2
  have hj2 : j * 3 + 2 < cur2.size := by
    have := hc2 2 (by decide)
    rw [List.getElem?_eq_getElem (by omega)] at this
    exact (Array.getElem?_eq_some_iff.1 this).1
  have C9 : Chg (fun k => k = g2) W (set3 W g2 (j * 3) c1 c2 c3) := set3_chg (S := fun k => k = g2) (o := j * 3) (x := c1) (y := c2) (z := c3) rfl
  refine ⟨g, cap, g2, cap2, rfl, by rw [cell_of_row W g s _ _ (0, 0) hg]; exact hck, hSg, s1 g2 hSg2, hne, hl2, ⟨cur2, hg2, hj2⟩, ?_, C9⟩
  have B2 : waysR.own (set3 W g2 (j * 3) c1 c2 c3) (fun k => Sj k ∨ T k) [.slice (some ⟨g2, 0, none⟩) row.length cap2] (row.set j x) := by
    refine back2 _ (((cur2.setIfInBounds (j * 3) c1).setIfInBounds (j * 3 + 1) c2).setIfInBounds (j * 3 + 2) c3) [c1, c2, c3] x T _ (set3_same hg2) (by simp) ?_ ?_ ?_ (wayR.own_keep hx fun k hk _ => set3_other fun e => hST g2 (s1 g2 hSg2) (e ▸ hk)) ?_ ?_ ?_ ?_ ?_
    · intro i hi
      rw [Array.getElem?_setIfInBounds_ne (by omega), Array.getElem?_setIfInBounds_ne (by omega), Array.getElem?_setIfInBounds_ne (by omega)]
    · intro i hi
      have : i = 0 ∨ i = 1 ∨ i = 2 := by omega
      rcases this with rfl | rfl | rfl
      · rw [Array.getElem?_setIfInBounds_ne (by omega), Array.getElem?_setIfInBounds_ne (by omega)]
        simp [show j * 3 < cur2.size from by omega]
      · rw [Array.getElem?_setIfInBounds_ne (by omega)]
        simp [show j * 3 + 1 < cur2.size from by omega]
      · simp [hj2]
    · intro k hk hlk
      exact C9.block k hlk fun e => k2 (e ▸ hk)
    · intro k hk hT
      exact hST k (s1 k (t2 k hT)) hk
    · intro hk
      exact hST g2 (s1 g2 hSg2) hk
    · exact .inl hSg2
    · exact fun k hk => .inr hk
    · exact fun k hk => .inl (t2 k hk)
  refine back _ cur _ _ (fun k => Sj k ∨ T k) _ ((C9.block g hl hne).trans hg) rfl (fun _ _ => rfl) hc ?_ B2 ?_ ?_ ?_ ?_ ?_
  · intro k hk hlk
    exact C9.block k hlk fun e => hd k (e ▸ hSg2) hk
  · rintro k (h | h) hT
    · exact hd k h hT
    · exact hST k (s2 k hT) h
  · rintro (h | h)
    · exact n1 h
    · exact hST g hSg h
  · exact .inl hSg
  · rintro k (h | h)
    · exact .inl (s1 k h)
    · exact .inr h
  · exact fun k hk => .inl (s2 k hk)
theorem ds_first {B g mb : Nat} {w W : World} {c : CacheD} {u : Value} {v0 : Option Addr} {cp : Nat} {row : List WayD} {old : WayD} (h : DSto B g w W mb c u v0 cp) (hrow : c.1[0]? = some row) (hj : row[0]? = some old) :
    ∃ g1 cap g2 cap2, u = .slice (some ⟨g1, 0, none⟩) c.1.length cap ∧ W.cell? ⟨g1, 0, none⟩ = some (.slice (some ⟨g2, 0, none⟩) row.length cap2) ∧ w.heap.size < g1 ∧ g1 ≠ mb ∧ g1 < W.heap.size ∧ w.heap.size < g2 ∧ g2 ≠ mb ∧ g2 < W.heap.size ∧ g1 ≠ g2 := by
  obtain ⟨S, S2, o1, o2, hd, f1, f2⟩ := h.own
  obtain ⟨g1, cap, g2, cap2, e, hc, a1, a2, hne, l1, l2, -⟩ := own_put_at o1 hrow hj
  have q1 := f1 g1 a1
  have q2 := f1 g2 a2
  exact ⟨g1, cap, g2, cap2, e, hc, q1.1, q1.2.1, q1.2.2, q2.1, q2.2.1, q2.2.2, hne⟩
theorem ds_put0 {B g mb g1 cap g2 cap2 : Nat} {w W w2 : World} {c : CacheD} {v0 : Option Addr} {cp : Nat} {row : List WayD} {old v : WayD} {c1 c2 c3 : Value} (h : DSto B g w W mb c (.slice (some ⟨g1, 0, none⟩) c.1.length cap) v0 cp) (hch : Chg (fun b => b = g) W w2) (hcur : Cur B w2 g)
    (hx : wayR.own w2 (rng W.heap.size w2.heap.size) [c1, c2, c3] v) (hrow : c.1[0]? = some row) (hj : row[0]? = some old) (hcell : W.cell? ⟨g1, 0, none⟩ = some (.slice (some ⟨g2, 0, none⟩) row.length cap2)) :
    (∃ cur, w2.heap[g2]? = some (.cells cur 29 (0, 0)) ∧ 2 < cur.size) ∧ DSto B g w (set3 w2 g2 0 c1 c2 c3) mb (c.1.set 0 (row.set 0 v), c.2) (.slice (some ⟨g1, 0, none⟩) c.1.length cap) v0 cp := by
  obtain ⟨l2, l3, l4, l5⟩ := h.lt
  obtain ⟨S, S2, o1, o2, hd, f1, f2⟩ := h.own
  have hs := hch.size
  have p1 := own_chg o1 hch (fun j hj e => by have := (f1 j hj).1; omega)
  have p2 := own_chg o2 hch (fun j hj e => by have := (f2 j hj).1; omega)
  obtain ⟨g1', cap', g2', cap2', e, hc, a1, a2, hne, hl, hcurr, OW, CH⟩ := own_put_sep p1 hrow hj hx (fun k h1 h2 => by have := (f1 k h1).2.2; have := h2.1; omega)
  simp only [Value.slice.injEq, Option.some.injEq, Addr.mk.injEq, and_true, true_and] at e
  obtain ⟨rfl, rfl⟩ := e
  have hg1 := f1 g1 a1
  have hcell2 : w2.cell? ⟨g1, 0, none⟩ = some (.slice (some ⟨g2, 0, none⟩) row.length cap2) := (World.cell?_of_block (w := W) (a := ⟨g1, 0, none⟩) (hch.block g1 hg1.2.2 (by omega))).trans hcell
  rw [hcell2] at hc
  simp only [Option.some.injEq, Value.slice.injEq, Addr.mk.injEq, and_true, true_and] at hc
  obtain ⟨rfl, rfl⟩ := hc
  have hg2 := f1 g2 a2
  have hsz : (set3 w2 g2 (0 * 3) c1 c2 c3).heap.size = w2.heap.size := set3_size
  refine ⟨by simpa using hcurr, ?_⟩
  have CH0 : Chg (fun k => k = g2) w2 (set3 w2 g2 0 c1 c2 c3) := by simpa using CH
  refine ⟨(CH0.block mb (by omega) (by omega)).trans ((hch.block mb l3 (by omega)).trans h.box), (CH0.block _ (by omega) (by omega)).trans ((hch.block _ (by omega) (by omega)).trans h.res), ⟨_, S2, by simpa using OW, own_chg p2 CH0 (fun k h1 h2 => hd k (h2 ▸ a2) h1), ?_, ?_, ?_⟩, cur_chg hcur CH0 (fun k hk => by omega) (by omega), chg_join (h.chg.trans hch) CH0 (fun j hj => by omega), l2, by have := CH0.size; omega, l4, l5⟩
  · rintro k (h1 | h1) h2
    · exact hd k h1 h2
    · have := (f2 k h2).2.2; have := h1.1; omega
  · rintro k (h1 | h1)
    · have := f1 k h1; have := CH0.size; omega
    · have q1 := h1.1; have q2 := h1.2; have := CH0.size; omega
  · intro k hk
    have := f2 k hk
    have := CH0.size
    omega
theorem ds_trees {B g mb : Nat} {w W : World} {c : CacheD} {u : Value} {v0 : Option Addr} {cp : Nat} {t : Int} (h : DSto B g w W mb c u v0 cp) (ht : c.2[0]? = some t) : ∃ g1, v0 = some ⟨g1, 0, none⟩ ∧ W.cell? ⟨g1, 0, none⟩ = some (.int .i64 t) ∧ w.heap.size < g1 ∧ g1 ≠ mb ∧ g1 < W.heap.size := by
  obtain ⟨S, S2, o1, o2, hd, f1, f2⟩ := h.own
  obtain ⟨g1, cap, e, hS, hl, hc, -⟩ := own_num o2 ht
  simp only [Value.slice.injEq, true_and] at e
  have := f2 g1 hS
  exact ⟨g1, e.1, hc, this.1, this.2.1, this.2.2⟩
theorem ds_tree0 {B g mb g1 : Nat} {w W w2 : World} {c : CacheD} {u : Value} {cp : Nat} {t y : Int} (h : DSto B g w W mb c u (some ⟨g1, 0, none⟩) cp) (hch : Chg (fun b => b = g) W w2) (hcur : Cur B w2 g) (ht : c.2[0]? = some t) (hy : In64 y) :
    w2.cell? ⟨g1, 0, none⟩ = some (.int .i64 t) ∧ w2.frozen? ⟨g1, 0, none⟩ = false ∧ DSto B g w (w2.setCell ⟨g1, 0, none⟩ (.int .i64 y)) mb (c.1, c.2.set 0 y) u (some ⟨g1, 0, none⟩) cp := by
  obtain ⟨l2, l3, l4, l5⟩ := h.lt
  obtain ⟨S, S2, o1, o2, hd, f1, f2⟩ := h.own
  have hs := hch.size
  have p1 := own_chg o1 hch (fun j hj e => by have := (f1 j hj).1; omega)
  have p2 := own_chg o2 hch (fun j hj e => by have := (f2 j hj).1; omega)
  obtain ⟨g1', cap, e, hS, hl, hc, st⟩ := own_num p2 ht
  simp only [Value.slice.injEq, Option.some.injEq, Addr.mk.injEq, and_true, true_and] at e
  obtain ⟨rfl, rfl⟩ := e
  obtain ⟨q1, q2, OW, CH⟩ := st w2 y (Below.refl _ _) hy
  have hlen : (c.2.set 0 y).length = c.2.length := List.length_set
  have hg1 := f2 g1 hS
  have hz := CH.size
  refine ⟨q1, q2, ?_, (CH.block _ (by omega) (by omega)).trans ((hch.block _ (by omega) (by omega)).trans h.res), ⟨S, S2, own_chg p1 CH (fun k h1 h2 => hd k h1 (h2 ▸ hS)), by rw [hlen]; exact OW, hd, fun k hk => by have := f1 k hk; omega, fun k hk => by have := f2 k hk; omega⟩, cur_chg hcur CH (fun k hk => by omega) (by omega), chg_join (h.chg.trans hch) CH (fun j hj => by omega), l2, by omega, l4, l5⟩
  show _ = some (Obj.cells #[u, Value.slice _ (c.2.set 0 y).length cp] _ (0, 0))
  rw [hlen]
  exact (CH.block mb (by omega) (by omega)).trans ((hch.block mb l3 (by omega)).trans h.box)
theorem lrd_dropG {α : Type} {R : Rep α} {w : World} : ∀ {xs : List α} {cs : List Value} (n : Nat), lrd R w cs xs → lrd R w (cs.drop (n * R.size)) (xs.drop n)
  | [], cs, n, h => by
    rw [show cs = [] from h]
    simp [lrd]
  | x :: xs, cs, 0, h => by simpa using h
  | x :: xs, cs, n + 1, ⟨c1, c2, e, h1, h2⟩ => by
    subst e
    have hl := R.rd_len h1
    rw [List.drop_succ_cons, Nat.add_one_mul, List.drop_append, List.drop_of_length_le (by omega), List.nil_append, show n * R.size + R.size - c1.length = n * R.size by omega]
    exact lrd_dropG n h2
theorem slrd_dropG {α : Type} {R : Rep α} {w : World} {b off n : Nat} {xs : List α} (h : SlRd R w (some ⟨b, off, none⟩) xs) : SlRd R w (some ⟨b, off + n * R.size, none⟩) (xs.drop n) := by
  rcases h with rfl | ⟨b', off', rows, e, h1, h2⟩
  · exact .inl (by simp)
  · simp only [Option.some.injEq, Addr.mk.injEq, and_true] at e
    obtain ⟨rfl, rfl⟩ := e
    refine .inr ⟨b, off + n * R.size, rows.drop (n * R.size), rfl, lrd_dropG n h1, fun j u hu => ?_⟩
    rw [List.getElem?_drop] at hu
    have := h2 _ u hu
    rw [show off + n * R.size + j = off + (n * R.size + j) from Nat.add_assoc _ _ _]
    exact this
theorem dr_tail {B g mb g1 cap : Nat} {w W : World} {c : CacheD} {v0 : Option Addr} {cp : Nat} (h : DSto B g w W mb c (.slice (some ⟨g1, 0, none⟩) c.1.length cap) v0 cp) (hs : SmallC c) (av : Option Addr) (hav : av = if cap = 1 then some ⟨g1, 0, none⟩ else some ⟨g1, 1, none⟩) :
    DRead B g w (W.setCell ⟨mb, 0, none⟩ (.slice av (c.1.length - 1) (cap - 1))) mb (c.1.drop 1, c.2) (c.1.length - 1) c.2.length av (cap - 1) v0 cp := by
  obtain ⟨l2, l3, l4, l5⟩ := h.lt
  obtain ⟨S, S2, o1, o2, hd, f1, f2⟩ := h.own
  have hle : c.1.length ≤ cap := by
    obtain ⟨a, cap', e, q, -, -⟩ := setsR.own_rd o1
    simp only [List.cons.injEq, Value.slice.injEq, true_and, and_true] at e
    omega
  have CH : Chg (fun k => k = mb) W (W.setCell ⟨mb, 0, none⟩ (.slice av (c.1.length - 1) (cap - 1))) := ⟨rfl, rfl, rfl, by simp, fun j _ hj => heap_setCell_other W ⟨mb, 0, none⟩ j _ hj⟩
  have hz := CH.size
  refine ⟨⟨by simp, rfl⟩, heap_setCell_same W mb 0 _ _ _ h.box, (CH.block _ (by omega) (by omega)).trans h.res, fun W' hk => ⟨?_, ?_⟩, ⟨by have := hs.1; simp; omega, hs.2.1, fun row hr => hs.2.2 row (List.mem_of_mem_drop hr)⟩, cur_chg h.cur CH (fun k hk => by omega) (by omega), chg_join h.chg CH (fun j hj => by omega), l2, by omega, l4, l5⟩
  · have R1 := sets_rd_at (setsR.own_keep (w' := W') o1 fun k hS hl => by
      have := f1 k hS
      rw [hk k (by omega) (by omega), CH.block k hl (by omega)])
    subst hav
    split
    · exact .inl (List.eq_nil_of_length_eq_zero (by rw [List.length_drop]; omega))
    · have q : SlRd waysR W' (some ⟨g1, 0 + 1 * 1, none⟩) (c.1.drop 1) := slrd_dropG (n := 1) R1
      exact q
  · exact ints_rd (intsR.own_keep o2 fun k hS hl => by
      have := f2 k hS
      rw [hk k (by omega) (by omega), CH.block k hl (by omega)])
theorem ds_app0 {B g mb g1 cap cu : Nat} {w W : World} {c : CacheD} {au v0 : Option Addr} {cp : Nat} {row : List WayD} (h : DSto B g w W mb c (.slice (some ⟨g1, 0, none⟩) c.1.length cap) v0 cp) (hrow : c.1[0]? = some row) (hr4 : row.length ≤ 4) (hcell : W.cell? ⟨g1, 0, none⟩ = some (.slice au row.length cu)) :
    ∀ w9 ae ce, MadeR wayR W w9 [.int .i64 (-1), .int .i64 0, .slice ae 0 ce] emptyW → w9.cell? ⟨g1, 0, none⟩ = some (.slice au row.length cu) ∧
      ∃ g' c' w2, (Builtin.append_ #[73, 73] 73 #[.slice au row.length cu, .slice (some ⟨w9.heap.size, 0, none⟩) 1 1]).run Try.prog (w9.alloc (.cells #[.int .i64 (-1), .int .i64 0, .slice ae 0 ce] 29)) = .ok (.slice (some ⟨g', 0, none⟩) (row.length + 1) c') w2 ∧
        w2.cell? ⟨g1, 0, none⟩ = some (.slice au row.length cu) ∧ w2.frozen? ⟨g1, 0, none⟩ = false ∧ w2.heap[mb]? = some (.cells #[.slice (some ⟨g1, 0, none⟩) c.1.length cap, .slice v0 c.2.length cp] 27 (0, 0)) ∧
        DSto B g w (w2.setCell ⟨g1, 0, none⟩ (.slice (some ⟨g', 0, none⟩) (row.length + 1) c')) mb (c.1.set 0 (row ++ [emptyW]), c.2) (.slice (some ⟨g1, 0, none⟩) c.1.length cap) v0 cp := by
  obtain ⟨l2, l3, l4, l5⟩ := h.lt
  obtain ⟨S, S2, o1, o2, hdS, f1, f2⟩ := h.own
  obtain ⟨g, cap', cur, Sj, T, cc, hv, hSg, hg, hc, hcl, ho, s1, s2, hd, n1, n2, back⟩ := slown_focus o1 hrow
  simp only [Value.slice.injEq, Option.some.injEq, Addr.mk.injEq, and_true, true_and] at hv
  obtain ⟨rfl, rfl⟩ := hv
  have e1 : waysR.size = 1 := rfl
  simp only [e1, Nat.mul_one] at hc back
  obtain ⟨u, rfl⟩ : ∃ u, cc = [u] := List.length_eq_one_iff.1 hcl
  have hck0 : cur[0]? = some u := by simpa using hc 0 (by decide)
  have hu : u = .slice au row.length cu := by
    rw [cell_of_row W g1 0 _ _ (0, 0) hg, hck0] at hcell
    simpa using hcell
  subst hu
  have hck := hck0
  have hpl := (Array.getElem?_eq_some_iff.1 hg).1
  have gg := f1 g1 hSg
  intro w9 ae ce mm
  refine ⟨by rw [cell_of_row w9 g1 0 _ _ (0, 0) (row_keep mm.2 hg)]; exact hck, ?_⟩
  have ho' := ho
  obtain ⟨vx, rows0, S0, hv0, hr0, _, _, _⟩ := ho'
  simp only [List.cons.injEq, and_true] at hv0
  subst hv0
  have hrA : (w9.alloc (.cells #[.int .i64 (-1), .int .i64 0, .slice ae 0 ce] 29)).ownsRow 0 29 3 (.slice au row.length cu) row.length rows0 := orow_keep hr0 fun g hgb => by
    obtain ⟨cur', hh⟩ := row_block hr0 hgb
    have hl := (Array.getElem?_eq_some_iff.1 hh).1
    rw [Below.heap_alloc _ _ _ (Nat.lt_of_lt_of_le hl mm.2.size), mm.2.block _ hl]
  obtain ⟨i0, hi, hz0, hz1, hz2⟩ := info_parts Try.infoWay
  obtain ⟨v', w2, hrun, hown', hgrow, _, hblk⟩ := run_append_own_at (P := Try.prog) (w9.alloc (.cells #[.int .i64 (-1), .int .i64 0, .slice ae 0 ce] 29)) 0 73 73 29 i0 (.agg #[.int .i64 0, .int .i64 0, .slice none 0 0]) 3 40 Try.underlying73 hi hz0 hz1 hz2 rfl (by decide) _ _ _ hrA ⟨w9.heap.size, 0, none⟩ 1 1 [.int .i64 (-1), .int .i64 0, .slice ae 0 ce] rfl (cells_new3 w9 _ _ _ _) (by intro u hu; simp at hu; rcases hu with rfl | rfl | rfl <;> rfl) (by unfold maxLen; omega) (by omega) (Nat.zero_le _)
  obtain ⟨g', c', rfl⟩ := owns_shape hown'
  obtain ⟨NO, NC⟩ := appR_any (e := 29) (R := wayR) (by decide) ho mm (fun rows hr' => by rw [rows_unique hr' hr0]; exact hown') hgrow (hblk.imp id fun h => ⟨_, h, by have := mm.2.size; simp; omega⟩)
  have z0 := NC.size
  have sb : ∀ x, Old W Sj x → w.heap.size < x ∧ x ≠ mb ∧ x < W.heap.size := fun x hx => f1 x (s1 x hx.1)
  have nP : ¬ Old W Sj g1 := fun hx => n1 hx.1
  have P2 := (NC.block _ hpl nP).trans hg
  have kl := (Array.getElem?_eq_some_iff.1 hck).1
  have N2 := own_old NO
  have Mb := (NC.block mb l3 (fun hx => (sb mb hx).2.1 rfl)).trans h.box
  have CS : Chg (fun k => k = g1) w2 (w2.setCell ⟨g1, 0, none⟩ (.slice (some ⟨g', 0, none⟩) (row.length + 1) c')) := ⟨rfl, rfl, rfl, by simp, fun j _ hj => heap_setCell_other w2 ⟨g1, 0, none⟩ j _ hj⟩
  have zs := CS.size
  refine ⟨g', c', w2, hrun, by rw [cell_of_row w2 g1 0 _ _ (0, 0) P2]; exact hck, frozen_of_row w2 g1 0 _ _ P2, Mb, (CS.block mb (by omega) (by omega)).trans Mb, (CS.block _ (by omega) (by omega)).trans ((NC.block _ (by omega) (fun hx => by have := (sb _ hx).1; omega)).trans h.res), ⟨fun x => S x ∨ (W.heap.size ≤ x ∧ x < w2.heap.size), S2, ?_, ?_, ?_, ?_, ?_⟩, ?_, ?_, l2, by omega, l4, l5⟩
  · refine back _ (cur.setIfInBounds 0 (.slice (some ⟨g', 0, none⟩) (row.length + 1) c')) [.slice (some ⟨g', 0, none⟩) (row.length + 1) c'] _ (Old w2 fun x => Old W Sj x ∨ W.heap.size ≤ x) _ (heap_setCell_same w2 g1 0 _ _ _ P2) (by simp) ?_ ?_ ?_ (own_setC N2 ?_) ?_ ?_ ?_ ?_ ?_
    · intro i hi
      rw [Array.getElem?_setIfInBounds_ne (by omega)]
    · intro i hi
      have : i = 0 := by omega
      subst this
      simp [kl]
    · intro x hx hl
      have hxp : x ≠ g1 := fun e => n2 (e ▸ hx)
      rw [heap_setCell_other w2 ⟨g1, 0, none⟩ x _ hxp]
      exact NC.block x hl fun h => hd x h.1 hx
    · rintro ⟨h | h, _⟩
      · exact nP h
      · omega
    · rintro x ⟨h | h, _⟩ hT
      · exact hd x h.1 hT
      · have := (f1 x (s2 x hT)).2.2; omega
    · rintro ⟨h | h, _⟩
      · exact nP h
      · omega
    · exact .inl hSg
    · rintro x ⟨h | h, hl⟩
      · exact .inl (s1 x h.1)
      · exact .inr ⟨h, hl⟩
    · intro x hx
      exact .inl (s2 x hx)
  · exact own_chg (own_chg o2 NC (fun k h1 h2 => hdS k (s1 k h2.1) h1)) CS (fun k h1 h2 => hdS g1 hSg (h2 ▸ h1))
  · rintro k (h1 | h1) h2
    · exact hdS k h1 h2
    · have := (f2 k h2).2.2; omega
  · rintro k (h1 | h1)
    · have := f1 k h1; omega
    · omega
  · intro k hk
    have := f2 k hk
    omega
  · exact cur_chg (cur_chg h.cur NC (fun k hk => by have := (sb k hk).1; omega) (by omega)) CS (fun k hk => by omega) (by omega)
  · exact chg_join (chg_join h.chg NC (fun j hj => by have := (sb j hj).1; omega)) CS (fun j hj => by omega)
end Go.Proofs.Ytnalbbfilejokaa
