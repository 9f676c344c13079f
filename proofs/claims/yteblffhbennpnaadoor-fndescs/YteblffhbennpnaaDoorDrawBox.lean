
/- A struct that is being drawn, in a box, of any shape: fields set one by one, the cursor turned, in the end laid into the result. No program here. -/
import Derived.Test.YteblffhbennpnaaDoorDrawLn
namespace Go.Proofs.YteblffhbennpnaaDoor
open Go.ChangeShapes Go.WideShapes Go.ChangeAt Go.RowKit
set_option linter.unusedVariables false
variable {α : Type}

theorem chg_set {w : World} {g i : Nat} {v : Value} : Chg (fun b => b = g) w (w.setCell ⟨g, i, none⟩ v) := ⟨rfl, rfl, rfl, by simp, fun j _ hj => heap_setCell_other w ⟨g, i, none⟩ j v hj⟩
theorem chg_via {g rb : Nat} {w wr W : World} (h : Chg (fun b => b = g) w wr) (c : Chg (fun b => b = rb) wr W) (hl : w.heap.size ≤ rb) : Chg (fun b => b = g) w W :=
  ⟨c.os.trans h.os, c.tape.trans h.tape, c.output.trans h.output, Nat.le_trans h.size c.size, fun j hj hn => (c.block j (by have := h.size; omega) (by omega)).trans (h.block j hj hn)⟩

/-- A struct that is being drawn: it lies in the box mb; rb: the result's box. -/
structure DB (R : Rep α) (t : TypeId) (B g : Nat) (w wr : World) (rb mb : Nat) (z cs : List Value) (x : α) : Prop where
  box : wr.heap[mb]? = some (.cells cs.toArray t (0, 0))
  res : wr.heap[rb]? = some (.cells z.toArray t (0, 0))
  own : R.own wr (fun k => mb < k ∧ k < wr.heap.size) cs x
  cur : Cur B wr g
  chg : Chg (fun b => b = g) w wr
  lt : w.heap.size ≤ rb ∧ rb < mb ∧ mb < wr.heap.size ∧ g < w.heap.size ∧ B ≤ g
theorem db_step {R : Rep α} {t : TypeId} {B g rb mb : Nat} {w wr w' : World} {z cs : List Value} {x : α} (h : DB R t B g w wr rb mb z cs x) (hc : Chg (fun b => b = g) wr w') (hcur : Cur B w' g) : DB R t B g w w' rb mb z cs x := by
  obtain ⟨l1, l2, l3, l4, l5⟩ := h.lt
  have hs := hc.size
  exact ⟨(hc.block mb (by omega) (by omega)).trans h.box, (hc.block rb (by omega) (by omega)).trans h.res, R.own_mono (own_chg h.own hc (fun j hj e => by have := hj.1; omega)) (fun k hk => ⟨hk.1, by have := hk.2; omega⟩), hcur, h.chg.trans hc, l1, l2, by omega, l4, l5⟩
theorem db_grown {R : Rep α} {t : TypeId} {B g rb mb : Nat} {w wr w' : World} {z cs : List Value} {x : α} (h : DB R t B g w wr rb mb z cs x) (hg : wr.grownBy w' (some g)) (hcur : Cur B w' g) : DB R t B g w w' rb mb z cs x := db_step h (chg_grown hg rfl) hcur
theorem db_alloc {R : Rep α} {t : TypeId} {B g rb mb : Nat} {w wr : World} {z cs : List Value} {x : α} (h : DB R t B g w wr rb mb z cs x) (o : Obj) : DB R t B g w (wr.alloc o) rb mb z cs x := db_step h (chg_below (box_below wr o)) (cur_alloc h.cur o)
/-- One cell is set, and what lies in the box then reads as x'. -/
theorem db_put {R : Rep α} {t : TypeId} {B g rb mb i : Nat} {w wr : World} {z cs cs' : List Value} {x x' : α} {v : Value} (h : DB R t B g w wr rb mb z cs x) (hi : cs' = cs.set i v) (ho : R.own wr (fun k => mb < k ∧ k < wr.heap.size) cs' x') : DB R t B g w (wr.setCell ⟨mb, i, none⟩ v) rb mb z cs' x' := by
  obtain ⟨l1, l2, l3, l4, l5⟩ := h.lt
  have c1 : Chg (fun b => b = mb) wr (wr.setCell ⟨mb, i, none⟩ v) := chg_set
  have hb := heap_setCell_same wr mb i _ _ v h.box
  rw [List.setIfInBounds_toArray, ← hi] at hb
  exact ⟨hb, (c1.block rb (by omega) (by omega)).trans h.res, R.own_mono (own_chg ho c1 (fun j hj e => by have := hj.1; omega)) (fun k hk => ⟨hk.1, by have := hk.2; have := c1.size; omega⟩), cur_chg h.cur c1 (fun k hk => by omega) (by omega), chg_via h.chg c1 (by omega), l1, l2, by have := c1.size; omega, l4, l5⟩
theorem db_new {R : Rep α} {t : TypeId} {B g rb : Nat} {w wr : World} {z cs : List Value} {x : α} (hc : Chg (fun b => b = g) w wr) (hcur : Cur B wr g) (hres : wr.heap[rb]? = some (.cells z.toArray t (0, 0))) (ho : R.own (wr.alloc (.cells cs.toArray t)) (fun k => wr.heap.size < k ∧ k < wr.heap.size + 1) cs x) (h1 : w.heap.size ≤ rb) (h2 : rb < wr.heap.size) (h3 : g < w.heap.size) :
    DB R t B g w (wr.alloc (.cells cs.toArray t)) rb wr.heap.size z cs x :=
  ⟨heap_at wr _, heap_on _ hres, R.own_mono ho (fun k hk => ⟨hk.1, by have := hk.2; simp; omega⟩), cur_alloc hcur _, hc.trans (chg_below (box_below _ _)), h1, h2, by simp, h3, hcur.1⟩
/-- The box of what was drawn by another one: its own memory lies ahead of the box. -/
structure DC (R : Rep α) (t : TypeId) (B g : Nat) (w wr : World) (rb mb : Nat) (z cs : List Value) (x : α) : Prop where
  box : wr.heap[mb]? = some (.cells cs.toArray t (0, 0))
  res : wr.heap[rb]? = some (.cells z.toArray t (0, 0))
  own : R.own wr (fun k => rb < k ∧ k < wr.heap.size ∧ k ≠ mb) cs x
  cur : Cur B wr g
  chg : Chg (fun b => b = g) w wr
  lt : w.heap.size ≤ rb ∧ rb < mb ∧ mb < wr.heap.size ∧ g < w.heap.size ∧ B ≤ g
theorem dc_of {R : Rep α} {t : TypeId} {B g rb mb : Nat} {w wr : World} {z cs : List Value} {x : α} (h : DB R t B g w wr rb mb z cs x) : DC R t B g w wr rb mb z cs x :=
  ⟨h.box, h.res, R.own_mono h.own (fun k hk => ⟨by have := hk.1; have := h.lt; omega, hk.2, by have := hk.1; omega⟩), h.cur, h.chg, h.lt⟩
theorem dc_step {R : Rep α} {t : TypeId} {B g rb mb : Nat} {w wr w' : World} {z cs : List Value} {x : α} (h : DC R t B g w wr rb mb z cs x) (hc : Chg (fun b => b = g) wr w') (hcur : Cur B w' g) : DC R t B g w w' rb mb z cs x := by
  obtain ⟨l1, l2, l3, l4, l5⟩ := h.lt
  have hs := hc.size
  exact ⟨(hc.block mb (by omega) (by omega)).trans h.box, (hc.block rb (by omega) (by omega)).trans h.res, R.own_mono (own_chg h.own hc (fun j hj e => by have := hj.1; omega)) (fun k hk => ⟨hk.1, by have := hk.2; omega, hk.2.2⟩), hcur, h.chg.trans hc, l1, l2, by omega, l4, l5⟩
theorem dc_grown {R : Rep α} {t : TypeId} {B g rb mb : Nat} {w wr w' : World} {z cs : List Value} {x : α} (h : DC R t B g w wr rb mb z cs x) (hg : wr.grownBy w' (some g)) (hcur : Cur B w' g) : DC R t B g w w' rb mb z cs x := dc_step h (chg_grown hg rfl) hcur
theorem dc_alloc {R : Rep α} {t : TypeId} {B g rb mb : Nat} {w wr : World} {z cs : List Value} {x : α} (h : DC R t B g w wr rb mb z cs x) (o : Obj) : DC R t B g w (wr.alloc o) rb mb z cs x := dc_step h (chg_below (box_below wr o)) (cur_alloc h.cur o)
theorem dc_put {R : Rep α} {t : TypeId} {B g rb mb i : Nat} {w wr : World} {z cs cs' : List Value} {x x' : α} {v : Value} (h : DC R t B g w wr rb mb z cs x) (hi : cs' = cs.set i v) (ho : R.own wr (fun k => rb < k ∧ k < wr.heap.size ∧ k ≠ mb) cs' x') : DC R t B g w (wr.setCell ⟨mb, i, none⟩ v) rb mb z cs' x' := by
  obtain ⟨l1, l2, l3, l4, l5⟩ := h.lt
  have c1 : Chg (fun b => b = mb) wr (wr.setCell ⟨mb, i, none⟩ v) := chg_set
  have hb := heap_setCell_same wr mb i _ _ v h.box
  rw [List.setIfInBounds_toArray, ← hi] at hb
  exact ⟨hb, (c1.block rb (by omega) (by omega)).trans h.res, R.own_mono (own_chg ho c1 (fun j hj e => hj.2.2 e)) (fun k hk => ⟨hk.1, by have := hk.2; have := c1.size; omega, hk.2.2⟩), cur_chg h.cur c1 (fun k hk => by omega) (by omega), chg_via h.chg c1 (by omega), l1, l2, by have := c1.size; omega, l4, l5⟩
/-- The box of what was drawn: drawn ahead of it. -/
theorem dc_new {R : Rep α} {t : TypeId} {B g rb : Nat} {w w0 wr : World} {z cs : List Value} {x : α} (hd : DrewR R B g w0 wr cs x) (hc : Chg (fun b => b = g) w w0) (hres : w0.heap[rb]? = some (.cells z.toArray t (0, 0))) (h1 : w.heap.size ≤ rb) (h3 : g < w.heap.size) :
    DC R t B g w (wr.alloc (.cells cs.toArray t)) rb wr.heap.size z cs x := by
  have h2 := (Array.getElem?_eq_some_iff.1 hres).1
  have hs := hd.chg.size
  refine ⟨heap_at wr _, heap_on _ ((hd.chg.block rb h2 (by omega)).trans hres), ?_, cur_alloc hd.cur _, (hc.trans hd.chg).trans (chg_below (box_below _ _)), h1, by omega, by simp, h3, hd.cur.1⟩
  refine R.own_mono (R.own_keep hd.own (fun k _ hl => Below.heap_alloc wr _ k hl)) (fun k hk => ⟨by have := hk.1; omega, by have := hk.2; simp; omega, by have := hk.2; omega⟩)
theorem dc_done {R : Rep α} {t : TypeId} {B g rb mb : Nat} {w wr W : World} {z cs : List Value} {x : α} (h : DC R t B g w wr rb mb z cs x) (c : Chg (fun b => b = rb) wr W) : DrewR R B g w W cs x := by
  obtain ⟨l1, l2, l3, l4, l5⟩ := h.lt
  have hs := c.size
  exact ⟨R.own_mono (own_chg h.own c (fun j hj e => by have := hj.1; omega)) (fun k hk => ⟨by have := hk.1; omega, by have := hk.2.1; omega⟩), cur_chg h.cur c (fun k hk => by omega) (by omega), chg_via h.chg c l1⟩
theorem db_done {R : Rep α} {t : TypeId} {B g rb mb : Nat} {w wr W : World} {z cs : List Value} {x : α} (h : DB R t B g w wr rb mb z cs x) (c : Chg (fun b => b = rb) wr W) : DrewR R B g w W cs x := dc_done (dc_of h) c
end Go.Proofs.YteblffhbennpnaaDoor
