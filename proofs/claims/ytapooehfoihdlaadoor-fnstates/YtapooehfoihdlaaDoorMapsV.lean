/- A map of the call's own, by what stands at each key: keys of any type that is 'Keyed', elements int64. No program in it. -/
import Derived.Maps.OwnSet
import Derived.DeepKeys4
import Derived.WideKeyEntry
import Derived.Orders
import Derived.Maps.AppendAt
import Derived.Below
import Derived.Deep.QuietTactic
namespace Go.Proofs.YtapooehfoihdlaaDoor
open Go.ChangeShapes Go.WideShapes Go.RowKit
open Go.Maps (Keyed has_put_same has_put_other atKey_put_same atKey_put_other)

set_option linter.unusedVariables false

/-- Block b is a map of at most n entries; f tells what stands at each value that is a key. -/
def MapV (P : Program) (k e : TypeId) (w : World) (b n : Nat) (f : Value → Option Int) : Prop :=
  ∃ D : DataW Unit, w.ownsMap P k (plainElem P e) b n D ∧ ∀ v l, keyOf P k v = some l → Maps.has D l = (f v).isSome ∧ D.atKey l (.lit (.int .i64 0)) = .lit (.int .i64 ((f v).getD 0))

open Classical in
noncomputable def putV (f : Value → Option Int) (v : Value) (x : Int) : Value → Option Int := fun u => if u = v then some x else f u

theorem putV_same (f : Value → Option Int) (v : Value) (x : Int) : putV f v x v = some x := by simp [putV]
theorem putV_other (f : Value → Option Int) {v u : Value} (x : Int) (h : u ≠ v) : putV f v x u = f u := by simp [putV, h]

section
variable {P : Program} {k e t : TypeId} {w : World} {b n : Nat} {f : Value → Option Int}

theorem mapV_made (w : World) (P : Program) (k e : TypeId) : MapV P k e (w.alloc (.map #[] 0)) w.heap.size 0 (fun _ => none) :=
  ⟨.map [], World.ownsMap_made w P k _, fun v l _ => ⟨rfl, rfl⟩⟩

theorem MapV.lt (h : MapV P k e w b n f) : b < w.heap.size := by obtain ⟨D, h, _⟩ := h; exact h.lt
theorem MapV.kept {w' : World} {row : Option Nat} (h : MapV P k e w b n f) (hg : w.grownBy w' row) (hne : some b ≠ row) : MapV P k e w' b n f := by
  obtain ⟨D, h, hf⟩ := h; exact ⟨D, h.kept hg hne, hf⟩
theorem MapV.alloc (h : MapV P k e w b n f) (o : Obj) : MapV P k e (w.alloc o) b n f := by obtain ⟨D, h, hf⟩ := h; exact ⟨D, h.alloc o, hf⟩
theorem MapV.drewN (h : MapV P k e w b n f) (q : Nat) : MapV P k e (w.drewN q) b n f := by
  obtain ⟨D, ⟨es, clock, hb, r⟩, hf⟩ := h; exact ⟨D, ⟨es, clock, hb, r⟩, hf⟩
theorem MapV.block {w' : World} (h : MapV P k e w b n f) (hb : w'.heap[b]? = w.heap[b]?) : MapV P k e w' b n f := by
  obtain ⟨D, ⟨es, clock, h0, r⟩, hf⟩ := h; exact ⟨D, ⟨es, clock, by rw [hb]; exact h0, r⟩, hf⟩
theorem MapV.below {w' : World} {m : Nat} (h : MapV P k e w b n f) (hB : Below m w w') (hm : b < m) : MapV P k e w' b n f := h.block (hB.block b hm)
theorem MapV.mono {n' : Nat} (h : MapV P k e w b n f) (hn : n ≤ n') : MapV P k e w b n' f := by obtain ⟨D, h, hf⟩ := h; exact ⟨D, h.mono hn, hf⟩
theorem MapV.congr {g : Value → Option Int} (h : MapV P k e w b n f) (hfg : ∀ v l, keyOf P k v = some l → f v = g v) : MapV P k e w b n g := by
  obtain ⟨D, h, hf⟩ := h
  exact ⟨D, h, fun v l hl => by rw [← hfg v l hl]; exact hf v l hl⟩

/-- m[k] -/
theorem MapV.look (h : MapV P k e w b n f) (K : Keyed P k) (ht : P.underlying t = some (.map k e)) (he : P.underlying e = some (.int .i64)) (hz : (zeroValue e).run P w = .ok (.int .i64 0) w) {v : Value} {l : Lit} (hl : keyOf P k v = some l) :
    (Instr.lookup t (.map (some b)) v false).run P w = .ok (.int .i64 ((f v).getD 0)) w := by
  obtain ⟨D, h, hf⟩ := h
  obtain ⟨c, hrun, hat, _⟩ := h.lookup_int K ht he hz hl
  rw [(hf v l hl).2] at hat
  simp only [DataW.lit.injEq, Lit.int.injEq, true_and] at hat
  rw [hrun, hat]
/-- v, ok := m[k] -/
theorem MapV.look_ok (h : MapV P k e w b n f) (K : Keyed P k) (ht : P.underlying t = some (.map k e)) (he : P.underlying e = some (.int .i64)) (hz : (zeroValue e).run P w = .ok (.int .i64 0) w) {v : Value} {l : Lit} (hl : keyOf P k v = some l) :
    (Instr.lookup t (.map (some b)) v true).run P w = .ok (.tuple #[.int .i64 ((f v).getD 0), .bool (f v).isSome]) w := by
  obtain ⟨D, h, hf⟩ := h
  obtain ⟨x, ps, hrun, hx⟩ := h.look_ok K ht hz (plainElem_int he (by decide)) hl
  rw [(hf v l hl).2] at hx
  obtain ⟨c, rfl, hc, _⟩ := plainElem_int_inv he hx
  simp only [Prod.mk.injEq, DataW.lit.injEq, Lit.int.injEq, true_and] at hc
  rw [hrun, (hf v l hl).1, hc.1]
/-- m[k] = x -/
theorem MapV.put (h : MapV P k e w b n f) (K : Keyed P k) (ht : P.underlying t = some (.map k e)) (he : P.underlying e = some (.int .i64)) (hn : n < maxLen) {v : Value} {l : Lit} (hl : keyOf P k v = some l) {x : Int} (hx : (Lit.int .i64 x).wf = true) :
    ∃ w', (Instr.mapUpdate t (.map (some b)) v (.int .i64 x)).run P w = .ok () w' ∧ MapV P k e w' b (n + 1) (putV f v x) ∧ w.grownBy w' (some b) := by
  obtain ⟨D, h, hf⟩ := h
  obtain ⟨w', hrun, h1, h2⟩ := h.update K ht hn hl (plainElem_int he hx)
  refine ⟨w', hrun, ⟨_, h1, fun u l' hl' => ?_⟩, h2⟩
  by_cases hu : u = v
  · subst hu
    rw [hl] at hl'
    cases hl'
    rw [putV_same, has_put_same h.isMap (K.key hl), atKey_put_same h.isMap (K.key hl)]
    exact ⟨rfl, rfl⟩
  · have hne : l' ≠ l := fun e => hu (K.inj hl' (e ▸ hl))
    rw [putV_other f x hu, has_put_other hne, atKey_put_other hne]
    exact hf u l' hl'
/-- clear(m) -/
theorem MapV.wiped (h : MapV P k e w b n f) (ht : P.underlying t = some (.map k e)) (ty : TypeId) :
    ∃ w', (Builtin.clear_ #[t] ty #[.map (some b)]).run P w = .ok (.tuple #[]) w' ∧ MapV P k e w' b n (fun _ => none) ∧ w.grownBy w' (some b) := by
  obtain ⟨D, ⟨es, clock, hb, F, hs, rfl⟩, hf⟩ := h
  refine ⟨ChangeMaps.setBlock w b (.map #[] clock), ?_, ⟨.map [], ⟨#[], clock, ChangeMaps.heap_setBlock_same hb _, ⟨by simp, MapKept.stamped_empty clock, by simp⟩, by simp, rfl⟩, fun v l _ => ⟨rfl, rfl⟩⟩, ⟨rfl, rfl, rfl, by simp [ChangeMaps.setBlock], fun i _ hi => ChangeMaps.heap_setBlock_other hb _ (fun e => hi (by rw [e]))⟩⟩
  simp [Builtin.clear_, run_underlying ht, MapKept.run_getObj_map hb, MapKept.run_setObj_map _ hb, Result.andThen, ChangeMaps.setBlock]

/-- m[k] op= x: the entry is met (made, if it was not there), then stored into: whatever is looked up between. -/
theorem MapV.entry (h : MapV P k e w b n f) (KL : WideMaps.KeyLaw P k) (ht : P.underlying t = some (.map k e)) (he : P.underlying e = some (.int .i64)) (hz : ∀ u : World, (zeroValue e).run P u = .ok (.int .i64 0) u) (hn : n < maxLen) {v : Value} {l : Lit} (hl : keyOf P k v = some l) :
    ∃ (v0 : Value) (st : Nat) (w1 : World), (Instr.mapEntry t (.map (some b)) v).run P w = .ok (.tuple #[v0, goInt st]) w1 ∧ w.grownBy w1 (some b) ∧ (Instr.lookup t (.map (some b)) v false).run P w1 = .ok (.int .i64 ((f v).getD 0)) w1 ∧
      ∀ x : Int, (Lit.int .i64 x).wf = true → ∃ w2, (Instr.entryStore t (.map (some b)) (goInt st) (.int .i64 x)).run P w1 = .ok () w2 ∧ MapV P k e w2 b (n + 1) (putV f v x) ∧ w.grownBy w2 (some b) := by
  have K := Keyed.of_law KL
  have h0 := h
  obtain ⟨D, ⟨es, clock, hb, F, hs, hD⟩, hf⟩ := h
  obtain ⟨v0, st, es1, clock1, hE, _, hS⟩ := WideElems.entry_then_store KL ht hz hb F hl
  have hb1 : (ChangeMaps.setBlock w b (.map es1 clock1)).heap[b]? = some (.map es1 clock1) := ChangeMaps.heap_setBlock_same hb _
  have g1 : w.grownBy (ChangeMaps.setBlock w b (.map es1 clock1)) (some b) := ⟨rfl, rfl, rfl, by simp [ChangeMaps.setBlock], fun i _ hi => ChangeMaps.heap_setBlock_other hb _ (fun e => hi (by rw [e]))⟩
  refine ⟨v0, st, _, hE, g1, ?_, fun x hx => ?_⟩
  · -- the world behind the entry is a world behind a store of what was there, but for the element: looked up by the store's own law
    obtain ⟨es', clock', hrun', hup⟩ := hS _ (.int .i64 ((f v).getD 0)) hb1
    have K1 := K.find w hl es.toList F.keys
    rcases K1 with ⟨h1, h2⟩ | ⟨j, e0, h1, h2, h3⟩
    · have e1 : (Instr.mapEntry t (.map (some b)) v).run P w = .ok (.tuple #[.int .i64 0, goInt clock]) (ChangeMaps.setBlock w b (.map (es.push ⟨v, .int .i64 0, clock⟩) (clock + 1))) := by
        simp [Instr.mapEntry, run_underlying ht, MapKept.run_getObj_map hb, K.check w false hl, h1, hz, MapKept.run_setObj_map _ hb, Result.andThen, ChangeMaps.setBlock]
      rw [hE] at e1
      simp only [Result.ok.injEq] at e1
      rw [e1.2]
      have hput := h0.put K ht he hn hl (x := 0) (by decide)
      obtain ⟨w', hr, hm, _⟩ := hput
      have e2 : (Instr.mapUpdate t (.map (some b)) v (.int .i64 0)).run P w = .ok () (ChangeMaps.setBlock w b (.map (es.push ⟨v, .int .i64 0, clock⟩) (clock + 1))) := by
        simp [Instr.mapUpdate, run_underlying ht, MapKept.run_getObj_map hb, K.check w false hl, h1, MapKept.run_setObj_map _ hb, Result.andThen, ChangeMaps.setBlock]
      rw [hr] at e2
      simp only [Result.ok.injEq, true_and] at e2
      rw [← e2]
      have hlk := hm.look K ht he (hz _) hl
      rw [putV_same] at hlk
      have hl0 := h0.look K ht he (hz _) hl
      have hl1 : (Instr.lookup t (.map (some b)) v false).run P w = .ok (.int .i64 0) w := by
        simp [Instr.lookup, run_underlying ht, MapKept.run_getObj_map hb, K.check w _ hl, h1, hz, Result.andThen]
      rw [hl0] at hl1
      simp only [Result.ok.injEq, Value.int.injEq, true_and, and_true] at hl1
      rw [hl1]
      simpa using hlk
    · have hj : es[j]? = some e0 := by simpa using h2
      have hsame : es.modify j (fun e => { e with key := v }) = es := by
        apply Array.ext'
        rw [Array.toList_modify, ChangeMaps.modify_eq_set _ _ _ _ h2]
        have : ({ e0 with key := v } : MapEntry) = e0 := by rw [← h3]
        rw [this]
        exact WideElems.set_self _ _ _ h2
      have e1 : (Instr.mapEntry t (.map (some b)) v).run P w = .ok (.tuple #[e0.val, goInt e0.born]) (ChangeMaps.setBlock w b (.map es clock)) := by
        simp [Instr.mapEntry, run_underlying ht, MapKept.run_getObj_map hb, K.check w false hl, h1, hj, h3, K.stays w hl, hsame, MapKept.run_setObj_map _ hb, Result.andThen, ChangeMaps.setBlock]
      rw [hE] at e1
      simp only [Result.ok.injEq] at e1
      rw [e1.2]
      refine (h0.block ?_).look K ht he (hz _) hl
      rw [ChangeMaps.heap_setBlock_same hb _, hb]
  · obtain ⟨es', clock', hrun', hup⟩ := hS _ (.int .i64 x) hb1
    obtain ⟨w', hr, hm, hg⟩ := h0.put K ht he hn hl hx
    rw [hr] at hup
    simp only [Result.ok.injEq, true_and] at hup
    have e2 : ChangeMaps.setBlock (ChangeMaps.setBlock w b (.map es1 clock1)) b (.map es' clock') = w' := by rw [hup]; simp [ChangeMaps.setBlock]
    rw [e2] at hrun'
    exact ⟨w', hrun', hm, hg⟩

variable {ops : Array Oper} {rest : List Oper} {o : Oper} {a : Act} {Q : Exit → Act → World → Prop}

theorem wpList_put_V (hg : o.guard = none) (m x v : Operand) (t : TypeId) (hop : o.op = Op.mapUpdate t m x v)
    (h : MapV P k e w b n f) (K : Keyed P k) (ht : P.underlying t = some (.map k e)) (he : P.underlying e = some (.int .i64)) (hn : n < maxLen)
    (hm : a.eval m = .map (some b)) (key : Value) (y : Int) (hx : a.eval x = key) (hv : a.eval v = .int .i64 y) (l : Lit) (hl : keyOf P k key = some l) (hy : (Lit.int .i64 y).wf = true)
    (hK : ∀ w', MapV P k e w' b (n + 1) (putV f key y) → w.grownBy w' (some b) → wpList P ops Q rest (a.put o.dst undef) w') :
    wpList P ops Q (o :: rest) a w := by
  refine wpList_plain hg fun K' hK' => ?_
  obtain ⟨w', hrun, r1, r2⟩ := h.put K ht he hn hl hy
  unfold Oper.wp
  simp [execOp, hop, hm, hx, hv, hrun, Result.andThen]
  exact hK' _ _ (hK w' r1 r2)
theorem wpList_look_V (hg : o.guard = none) (m x : Operand) (t : TypeId) (hop : o.op = Op.lookup t m x false)
    (h : MapV P k e w b n f) (K : Keyed P k) (ht : P.underlying t = some (.map k e)) (he : P.underlying e = some (.int .i64)) (hz : (zeroValue e).run P w = .ok (.int .i64 0) w)
    (hm : a.eval m = .map (some b)) (key : Value) (hx : a.eval x = key) (l : Lit) (hl : keyOf P k key = some l)
    (hK : wpList P ops Q rest (a.put o.dst (.int .i64 ((f key).getD 0))) w) :
    wpList P ops Q (o :: rest) a w := by
  refine wpList_plain hg fun K' hK' => ?_
  have hrun := h.look K ht he hz hl
  unfold Oper.wp
  simp [execOp, hop, hm, hx, hrun, Result.andThen]
  exact hK' _ _ hK
theorem wpList_lookok_V (hg : o.guard = none) (m x : Operand) (t : TypeId) (hop : o.op = Op.lookup t m x true)
    (h : MapV P k e w b n f) (K : Keyed P k) (ht : P.underlying t = some (.map k e)) (he : P.underlying e = some (.int .i64)) (hz : (zeroValue e).run P w = .ok (.int .i64 0) w)
    (hm : a.eval m = .map (some b)) (key : Value) (hx : a.eval x = key) (l : Lit) (hl : keyOf P k key = some l)
    (hK : wpList P ops Q rest (a.put o.dst (.tuple #[.int .i64 ((f key).getD 0), .bool (f key).isSome])) w) :
    wpList P ops Q (o :: rest) a w := by
  refine wpList_plain hg fun K' hK' => ?_
  have hrun := h.look_ok K ht he hz hl
  unfold Oper.wp
  simp [execOp, hop, hm, hx, hrun, Result.andThen]
  exact hK' _ _ hK
theorem wpList_clear_V (hg : o.guard = none) (m : Operand) (t : TypeId) (hop : o.op = Op.call { callee := Callee.builtin Builtin.clear, args := #[m], argTypes := #[t] })
    (h : MapV P k e w b n f) (ht : P.underlying t = some (.map k e)) (hm : a.eval m = .map (some b))
    (hK : ∀ w', MapV P k e w' b n (fun _ => none) → w.grownBy w' (some b) → wpList P ops Q rest (a.put o.dst (.tuple #[])) w') :
    wpList P ops Q (o :: rest) a w := by
  refine wpList_plain hg fun K' hK' => ?_
  obtain ⟨w', hrun, r1, r2⟩ := h.wiped ht o.type
  unfold Oper.wp
  simp [execOp, hop, resolve, invoke, builtin, hm, hrun, Result.andThen]
  exact hK' _ _ (hK w' r1 r2)
end
#print axioms MapV.look
#print axioms wpList_clear_V
end Go.Proofs.YtapooehfoihdlaaDoor
