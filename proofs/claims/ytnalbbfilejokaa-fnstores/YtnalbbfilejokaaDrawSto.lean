/- The draw of a store: some right store is drawn, in new memory, and nothing that was there turns but the cursor. Conditions: the bytes are at most 2^61. -/
import Derived.Test.YtnalbbfilejokaaDrawWay
import Derived.Test.YtnalbbfilejokaaFillImpl
import Derived.Deep.DeepCutAuto
namespace Go.Proofs.Ytnalbbfilejokaa
open Go.ChangeShapes Go.WideShapes Go.ChangeAt Go.RowKit
set_option linter.unusedVariables false

/-- A store that is being drawn: it lies in a box. -/
structure DSto (B g : Nat) (w wr : World) (mb : Nat) (c : CacheD) (u : Value) (v0 : Option Addr) (cp : Nat) : Prop where
  box : wr.heap[mb]? = some (.cells #[u, .slice v0 c.2.length cp] 27 (0, 0))
  res : wr.heap[w.heap.size]? = some (.cells #[.slice none 0 0, .slice none 0 0] 27 (0, 0))
  own : ∃ S S2 : Foot, setsR.own wr S [u] c.1 ∧ intsR.own wr S2 [.slice v0 c.2.length cp] c.2 ∧ Dis S S2 ∧ (∀ k, S k → w.heap.size < k ∧ k ≠ mb ∧ k < wr.heap.size) ∧ ∀ k, S2 k → w.heap.size < k ∧ k ≠ mb ∧ k < wr.heap.size
  cur : Cur B wr g
  chg : Chg (fun b => b = g) w wr
  lt : w.heap.size < mb ∧ mb < wr.heap.size ∧ g < w.heap.size ∧ B ≤ g
theorem ds_step {B g mb : Nat} {w wr w' : World} {c : CacheD} {u : Value} {v0 : Option Addr} {cp : Nat} (h : DSto B g w wr mb c u v0 cp) (hc : Chg (fun b => b = g) wr w') (hcur : Cur B w' g) : DSto B g w w' mb c u v0 cp := by
  obtain ⟨l2, l3, l4, l5⟩ := h.lt
  have hs := hc.size
  obtain ⟨S, S2, o1, o2, hd, f1, f2⟩ := h.own
  exact ⟨(hc.block mb (by omega) (by omega)).trans h.box, (hc.block _ (by omega) (by omega)).trans h.res, ⟨S, S2, own_chg o1 hc (fun j hj e => by have := (f1 j hj).1; omega), own_chg o2 hc (fun j hj e => by have := (f2 j hj).1; omega), hd, fun k hk => by have := f1 k hk; omega, fun k hk => by have := f2 k hk; omega⟩, hcur, h.chg.trans hc, l2, by omega, l4, l5⟩
theorem ds_grown {B g mb : Nat} {w wr w' : World} {c : CacheD} {u : Value} {v0 : Option Addr} {cp : Nat} (h : DSto B g w wr mb c u v0 cp) (hg : wr.grownBy w' (some g)) (hcur : Cur B w' g) : DSto B g w w' mb c u v0 cp := ds_step h (chg_grown hg rfl) hcur
theorem chg_join {g : Nat} {T : Foot} {w wr w' : World} (h : Chg (fun b => b = g) w wr) (k : Chg T wr w') (hT : ∀ j, T j → w.heap.size ≤ j) : Chg (fun b => b = g) w w' :=
  ⟨k.os.trans h.os, k.tape.trans h.tape, k.output.trans h.output, Nat.le_trans h.size k.size, fun j hj hn => (k.block j (by have := h.size; omega) (fun hx => by have := hT j hx; omega)).trans (h.block j hj hn)⟩
/-- What a fill or a drop leaves. -/
theorem ds_turn {B g mb : Nat} {w wr w' : World} {c c' : CacheD} {u : Value} {v0 : Option Addr} {cp : Nat} {S S2 : Foot} (h : DSto B g w wr mb c u v0 cp) (hd : Dis S S2) (f1 : ∀ k, S k → w.heap.size < k ∧ k ≠ mb ∧ k < wr.heap.size) (f2 : ∀ k, S2 k → w.heap.size < k ∧ k ≠ mb ∧ k < wr.heap.size)
    (o1 : setsR.own w' (fun k => Old wr S k ∨ (wr.heap.size ≤ k ∧ k < w'.heap.size)) [u] c'.1) (o2 : intsR.own w' S2 [.slice v0 c.2.length cp] c'.2) (hl : c'.2.length = c.2.length) (hc : Chg (fun k => Old wr S k ∨ S2 k) wr w') : DSto B g w w' mb c' u v0 cp := by
  obtain ⟨l2, l3, l4, l5⟩ := h.lt
  have hs := hc.size
  have hT : ∀ j, (Old wr S j ∨ S2 j) → w.heap.size < j ∧ j ≠ mb := fun j hj => by
    rcases hj with hj | hj
    · have := f1 j hj.1; omega
    · have := f2 j hj; omega
  rw [← hl] at o2
  refine ⟨?_, (hc.block _ (by omega) (fun hx => by have := (hT _ hx).1; omega)).trans h.res, ⟨_, S2, o1, o2, ?_, ?_, ?_⟩, cur_chg h.cur hc (fun k hk => by have := (hT k hk).1; omega) (by omega), chg_join h.chg hc (fun j hj => by have := (hT j hj).1; omega), l2, by omega, l4, l5⟩
  · rw [hl]
    exact (hc.block mb l3 (fun hx => (hT mb hx).2 rfl)).trans h.box
  · intro k h1 h2
    rcases h1 with h1 | h1
    · exact hd k h1.1 h2
    · have := f2 k h2; omega
  · intro k hk
    rcases hk with hk | hk
    · have := f1 k hk.1; omega
    · omega
  · intro k hk
    have := f2 k hk
    omega
theorem way_parts {w : World} {v : WayD} {av : Option Addr} {cv : Nat} (h : wayR.rd w [.int .i64 v.1, .int .i64 v.2.1, .slice av v.2.2.length cv] v) : In64 v.1 ∧ In64 v.2.1 ∧ SlRd intR w av v.2.2 := by
  obtain ⟨a, cap, e, i1, i2, -, -, h3⟩ := way_rd h
  simp only [List.cons.injEq, Value.slice.injEq, and_true, true_and] at e
  obtain ⟨rfl, rfl⟩ := e
  exact ⟨i1, i2, h3⟩
theorem fillI_ok {c : CacheD} {u : WayD} (hok : OkC isL treeB c) : OkC isL treeB (fillI c u).1 := by
  cases hf : fullB isL u
  · rw [fill_not hok hf]
    exact hok
  · cases hp : putNo c u.1 with
    | none =>
      rw [fill_none hok hp]
      exact hok
    | some i =>
      rw [fill_at hok hf hp]
      exact (fill_ok (fun t n y h1 h2 h3 => tou_ok h1 h2 h3) hok hf hp).1
theorem dropI_ok {c : CacheD} {line : Int} (hok : OkC isL treeB c) : OkC isL treeB (dropI c line).1 := by
  cases hat : atC c line with
  | none =>
    rw [drop_none hok hat]
    exact hok
  | some i =>
    rw [drop_some hok hat]
    exact (drop_ok hok hat).1
theorem tree_zero {m : Nat} (h : pow3 m) : treeB 0 m = true := by
  rcases h with rfl | rfl | rfl <;> decide
theorem newI_ok {a b : Int} (ha : powB a = true) (hb : powB b = true) : OkC isL treeB (newI a b).1 := by
  obtain ⟨n, rfl, hn⟩ := powB_nat ha
  obtain ⟨m, rfl, hm⟩ := powB_nat hb
  rw [new_yes (by rw [ha, hb]; rfl)]
  exact new_ok hn hm (fun m hm => tree_zero hm)
/-- What the draw of a right store leaves. -/
def DrawCP (B g : Nat) (w : World) (e : Ending) (w' : World) : Prop :=
  ∃ c av cv bv dv, e = .returned (.agg #[.slice av c.1.length cv, .slice bv c.2.length dv]) ∧ OkC isL treeB c ∧ DrewR cacheR B g w w' [.slice av c.1.length cv, .slice bv c.2.length dv] c
theorem put2_chg {w : World} {g : Nat} {v0 v1 : Value} : Chg (fun b => b = g) w ((w.setCell ⟨g, 0, none⟩ v0).setCell ⟨g, 1, none⟩ v1) := by
  have one : ∀ (w : World) (o : Nat) (v : Value), Chg (fun b => b = g) w (w.setCell ⟨g, o, none⟩ v) := fun w o v => ⟨rfl, rfl, rfl, by simp, fun j _ hj => heap_setCell_other w ⟨g, o, none⟩ j v hj⟩
  exact (one w 0 v0).trans (one _ 1 v1)
theorem ds_made {B g mb : Nat} {w wr : World} {c : CacheD} {u : Value} {v0 : Option Addr} {cp : Nat} (h : DSto B g w wr mb c u v0 cp) : ∃ av cv, u = .slice av c.1.length cv ∧ cacheR.own wr (rng w.heap.size wr.heap.size) [u, .slice v0 c.2.length cp] c := by
  obtain ⟨S, S2, o1, o2, hd, f1, f2⟩ := h.own
  obtain ⟨av, cv, rfl, -⟩ := sets_rd o1
  exact ⟨av, cv, rfl, own_cache o1 o2 (fun k hk => by have := f1 k hk; exact ⟨by omega, by omega⟩) (fun k hk => by have := f2 k hk; exact ⟨by omega, by omega⟩) hd⟩
theorem ds_end {B g mb : Nat} {w wr : World} {c : CacheD} {av v0 : Option Addr} {cv cp : Nat} {a : Act} (h : DSto B g w wr mb c (.slice av c.1.length cv) v0 cp) (hok : OkC isL treeB c) (ha : a.tmps[2]? = some (.pointer (some ⟨w.heap.size, 0, none⟩))) (hdf : a.defers = []) :
    bodyPost Try.prog Try.f80 (fun e w' => DrawCP B g w e w') Exit.ret a ((wr.setCell ⟨w.heap.size, 0, none⟩ (.slice av c.1.length cv)).setCell ⟨w.heap.size, 1, none⟩ (.slice v0 c.2.length cp)) := by
  obtain ⟨l2, l3, l4, l5⟩ := h.lt
  obtain ⟨S, S2, o1, o2, hd, f1, f2⟩ := h.own
  obtain ⟨r0, r1⟩ := cells_two (put2 (a := .slice av c.1.length cv) (b := .slice v0 c.2.length cp) h.res)
  have c7 := put2_chg (w := wr) (g := w.heap.size) (v0 := .slice av c.1.length cv) (v1 := .slice v0 c.2.length cp)
  generalize (wr.setCell ⟨w.heap.size, 0, none⟩ (.slice av c.1.length cv)).setCell ⟨w.heap.size, 1, none⟩ (.slice v0 c.2.length cp) = W at r0 r1 c7 ⊢
  have hs := c7.size
  have k1 := own_chg o1 c7 (fun j hj e => by have := (f1 j hj).1; omega)
  have k2 := own_chg o2 c7 (fun j hj e => by have := (f2 j hj).1; omega)
  refine bodyPost_ret (v := .agg #[.slice av c.1.length cv, .slice v0 c.2.length cp]) (by simp [results, Try.results80, go_sem, ha, r0, r1]) hdf ⟨c, av, cv, v0, cp, rfl, hok, ?_, cur_chg h.cur c7 (fun k hk => by omega) (by omega), chg_join h.chg c7 (fun j hj => by omega)⟩
  exact own_cache k1 k2 (fun k hk => by have := f1 k hk; exact ⟨by omega, by omega⟩) (fun k hk => by have := f2 k hk; exact ⟨by omega, by omega⟩) hd

def tabN (x : Int) : Int := ([1, 2, 4] : List Int).getD x.toNat 0
theorem tabA {w : World} {b : Nat} {o : Obj} (hb : b < w.heap.size) (h : ∀ x : Int, 0 ≤ x → x < 3 → w.cell? ⟨b, x.toNat, none⟩ = some (.int .i64 (tabN x))) :
    ∀ x : Int, 0 ≤ x → x < 3 → (w.alloc o).cell? ⟨b, x.toNat, none⟩ = some (.int .i64 (tabN x)) := fun x h0 h1 => (World.cell?_alloc_past _ _ _ hb).trans (h x h0 h1)
theorem tabG {w w' : World} {g b : Nat} (hg : w.grownBy w' (some g)) (hb : b ≠ g) (h : ∀ x : Int, 0 ≤ x → x < 3 → w.cell? ⟨b, x.toNat, none⟩ = some (.int .i64 (tabN x))) :
    ∀ x : Int, 0 ≤ x → x < 3 → w'.cell? ⟨b, x.toNat, none⟩ = some (.int .i64 (tabN x)) := fun x h0 h1 => hg.cell (h x h0 h1) (by simp; omega)
theorem pow_tab {x : Int} (h0 : 0 ≤ x) (h1 : x < 3) : powB (tabN x) = true := by
  obtain rfl | rfl | rfl : x = 0 ∨ x = 1 ∨ x = 2 := by omega
  all_goals rfl
theorem ds_fill {B g mb lo : Nat} {w wr : World} {c : CacheD} {u : Value} {v0 : Option Addr} {cp : Nat} {v : WayD} {av : Option Addr} {cv : Nat} (hok : OkC isL treeB c) (h : DSto B g w wr mb c u v0 cp) (hw : wayR.own wr (rng lo wr.heap.size) [.int .i64 v.1, .int .i64 v.2.1, .slice av v.2.2.length cv] v) (hd3 : v.2.2.length ≤ 3) :
    Calls Try.prog 52 #[.pointer (some ⟨mb, 0, none⟩), .agg #[.int .i64 v.1, .int .i64 v.2.1, .slice av v.2.2.length cv]] wr fun e w' => ∃ b, e = .returned (.bool b) ∧ ∃ c', OkC isL treeB c' ∧ DSto B g w w' mb c' u v0 cp := by
  obtain ⟨S, S2, o1, o2, hd, f1, f2⟩ := h.own
  have hrd := wayR.own_rd hw
  obtain ⟨i1, i2, hs⟩ := way_parts hrd
  refine (l6Fill_any mb cp S S2 u v0 c v.1 v.2.1 v.2.2 av cv wr hok h.box (fun hx => (f1 mb hx).2.1 rfl) (fun hx => (f2 mb hx).2.1 rfl) hd o1 o2 i1 i2 hs (by omega)).mono ?_
  rintro e w' ⟨rfl, q1, q2, q3⟩
  exact ⟨_, rfl, _, fillI_ok hok, ds_turn h hd f1 f2 q1 q2 (fill_len hok).2 q3⟩
theorem ds_drop {B g mb : Nat} {w wr : World} {c : CacheD} {u : Value} {v0 : Option Addr} {cp : Nat} {line : Int} (hok : OkC isL treeB c) (h : DSto B g w wr mb c u v0 cp) :
    Calls Try.prog 60 #[.pointer (some ⟨mb, 0, none⟩), .int .i64 line] wr fun e w' => ∃ b, e = .returned (.bool b) ∧ ∃ c', OkC isL treeB c' ∧ DSto B g w w' mb c' u v0 cp := by
  obtain ⟨S, S2, o1, o2, hd, f1, f2⟩ := h.own
  refine (l6Drop_any mb cp S u v0 c line wr hok h.box (fun hx => (f1 mb hx).2.1 rfl) o1).mono ?_
  rintro e w' ⟨rfl, q1, q2, q3⟩
  have o2' := own_chg o2 q3 (fun k h1 h2 => hd k h2.1 h1)
  exact ⟨_, rfl, _, dropI_ok hok, ds_turn h hd f1 f2 q1 (by rw [q2]; exact o2') (by rw [q2]) (q3.mono fun k hk => .inl hk)⟩
theorem rowG {w w' : World} {g k : Nat} {o : Obj} (hg : w.grownBy w' (some g)) (hk : k ≠ g) (h : w.heap[k]? = some o) : w'.heap[k]? = some o := by
  rw [hg.block k (Array.getElem?_eq_some_iff.1 h).1 (by simp; omega), h]
theorem ltR {w : World} {k : Nat} {o : Obj} (h : w.heap[k]? = some o) : k < w.heap.size := (Array.getElem?_eq_some_iff.1 h).1
theorem cur_bel {B g : Nat} {w w' : World} (h : Cur B w g) (hb : Below w.heap.size w w') : Cur B w' g :=
  cur_chg (S := fun _ => False) h (chg_below hb) (fun _ h => h.elim) (by have := cur_lt h; have := h.1; omega)
theorem froz2 {w : World} {g : Nat} {cs : Array Value} {t : TypeId} (h : w.heap[g]? = some (.cells cs t (0, 0))) : w.frozen? ⟨g, 0, none⟩ = false ∧ w.frozen? ⟨g, 1, none⟩ = false := ⟨frozen_of_row w g 0 cs t h, frozen_of_row w g 1 cs t h⟩
theorem ds_newA {B g mb lo : Nat} {w W : World} {c : CacheD} {av v0 : Option Addr} {cv cp : Nat} (hcur : Cur B W g) (hX : W.heap[mb]? = some (.cells #[.slice none 0 0, .slice none 0 0] 27 (0, 0))) (hR : W.heap[w.heap.size]? = some (.cells #[.slice none 0 0, .slice none 0 0] 27 (0, 0))) (hG : Chg (fun b => b = g) w W)
    (hm : cacheR.own W (rng lo W.heap.size) [.slice av c.1.length cv, .slice v0 c.2.length cp] c) (hlo : mb < lo) (hmb : w.heap.size < mb) (hg : g < w.heap.size) (hB : B ≤ g) :
    DSto B g w ((W.setCell ⟨mb, 0, none⟩ (.slice av c.1.length cv)).setCell ⟨mb, 1, none⟩ (.slice v0 c.2.length cp)) mb c (.slice av c.1.length cv) v0 cp := by
  have c7 := put2_chg (w := W) (g := mb) (v0 := .slice av c.1.length cv) (v1 := .slice v0 c.2.length cp)
  have hs := c7.size
  have hl := ltR hX
  obtain ⟨u, v, S1, S2, e, o1, o2, s1, s2, hd⟩ := cache_own hm
  simp only [List.cons.injEq, and_true] at e
  obtain ⟨rfl, rfl⟩ := e
  refine ⟨put2 hX, (c7.block _ (ltR hR) (by omega)).trans hR, ⟨S1, S2, own_chg o1 c7 (fun j hj e => by have := (s1 j hj).1; omega), own_chg o2 c7 (fun j hj e => by have := (s2 j hj).1; omega), hd, fun k hk => ?_, fun k hk => ?_⟩, cur_chg hcur c7 (fun k hk => by omega) (by omega), chg_join hG c7 (fun j hj => by omega), hmb, by omega, hg, hB⟩
  · have := s1 k hk; exact ⟨by have := this.1; omega, by have := this.1; omega, by have := this.2; omega⟩
  · have := s2 k hk; exact ⟨by have := this.1; omega, by have := this.1; omega, by have := this.2; omega⟩
theorem ds_newB {B g lo : Nat} {w W : World} {c : CacheD} {av v0 : Option Addr} {cv cp : Nat} (hcur : Cur B W g) (hR : W.heap[w.heap.size]? = some (.cells #[.slice none 0 0, .slice none 0 0] 27 (0, 0))) (hG : Chg (fun b => b = g) w W)
    (hm : cacheR.own W (rng lo W.heap.size) [.slice av c.1.length cv, .slice v0 c.2.length cp] c) (hlo : w.heap.size < lo) (hg : g < w.heap.size) (hB : B ≤ g) :
    DSto B g w (W.alloc (.cells #[.slice av c.1.length cv, .slice v0 c.2.length cp] 27)) W.heap.size c (.slice av c.1.length cv) v0 cp := by
  have hb := box_below W (.cells #[.slice av c.1.length cv, .slice v0 c.2.length cp] 27)
  have hl := ltR hR
  obtain ⟨u, v, S1, S2, e, o1, o2, s1, s2, hd⟩ := cache_own hm
  simp only [List.cons.injEq, and_true] at e
  obtain ⟨rfl, rfl⟩ := e
  refine ⟨heap_at W _, row_keep hb hR, ⟨S1, S2, own_box _ o1, own_box _ o2, hd, fun k hk => ?_, fun k hk => ?_⟩, cur_alloc hcur _, hG.trans (chg_below hb), hl, by simp, hg, hB⟩
  · have := s1 k hk; exact ⟨by have := this.1; omega, by have := this.2; omega, by have := this.2; simp; omega⟩
  · have := s2 k hk; exact ⟨by have := this.1; omega, by have := this.2; omega, by have := this.2; simp; omega⟩
end Go.Proofs.Ytnalbbfilejokaa
