
/- A list that is being drawn, one struct after the other. No program here. -/
import Derived.Test.YteblffhbennpnaaDoorPush
import Derived.Test.YteblffhbennpnaaDoorDrawLn
namespace Go.Proofs.YteblffhbennpnaaDoor
open Go.ChangeShapes Go.WideShapes Go.ChangeAt Go.RowKit
set_option linter.unusedVariables false
variable {α : Type}
theorem drew_step {R : Rep α} {B g : Nat} {w wr w1 : World} {cs : List Value} {x : α} (h : DrewR R B g w wr cs x) (hc : Chg (fun b => b = g) wr w1) (hcur : Cur B w1 g) (hg : g < w.heap.size) : DrewR R B g w w1 cs x :=
  ⟨R.own_mono (own_chg h.own hc (fun j hj e => by have := hj.1; omega)) (rng_sub (Nat.le_refl _) hc.size), hcur, h.chg.trans hc⟩
theorem drew_grown {R : Rep α} {B g : Nat} {w wr w1 : World} {cs : List Value} {x : α} (h : DrewR R B g w wr cs x) (hg1 : wr.grownBy w1 (some g)) (hcur : Cur B w1 g) (hg : g < w.heap.size) : DrewR R B g w w1 cs x := drew_step h (chg_grown hg1 rfl) hcur hg
theorem drew_alloc {R : Rep α} {B g : Nat} {w wr : World} {cs : List Value} {x : α} (h : DrewR R B g w wr cs x) (o : Obj) (hg : g < w.heap.size) : DrewR R B g w (wr.alloc o) cs x := drew_step h (chg_below (box_below wr o)) (cur_alloc h.cur o) hg
theorem drew_none {R : Rep α} {e : TypeId} {B g : Nat} {w wr : World} (hcur : Cur B wr g) (hc : Chg (fun b => b = g) w wr) : DrewR (slR e R) B g w (wr.alloc (.cells #[] e)) [.slice (some ⟨wr.heap.size, 0, none⟩) 0 0] [] := by
  have M := made_none (e := e) (R := R) wr
  exact ⟨(slR e R).own_mono M.1 (rng_sub hc.size (by simp)), cur_alloc hcur _, hc.trans (chg_below M.2)⟩
/-- Drawn later than w: what lies between turns nothing but the cursor. -/
theorem drew_from {R : Rep α} {B g : Nat} {w w0 wr : World} {cs : List Value} {x : α} (h : DrewR R B g w0 wr cs x) (hc : Chg (fun b => b = g) w w0) : DrewR R B g w wr cs x :=
  ⟨R.own_mono h.own (rng_sub hc.size (Nat.le_refl _)), h.cur, hc.trans h.chg⟩
theorem wpList_drew {P : Program} {w wr w1 : World} {ops : Array Oper} {rest : List Oper} {o : Oper} {a : Act} {Q : Exit → Act → World → Prop} (hgd : o.guard = none) (s x : Operand) (t : TypeId)
    (ho : o.op = .call { callee := .builtin .append, args := #[s, x], argTypes := #[t, t] })
    (R : Rep α) (e : TypeId) (i : TypeInfo) (z : Value) (bytes : Nat) (ht : P.underlying t = some (.slice e)) (hi : P.info? e = some i) (hz : i.zero = some z) (hsize : i.size = R.size) (hby : i.bytes = bytes) (hzs : z.cells.size = R.size) (hsz : 0 < R.size) (hty : e ∉ R.tys)
    (B g : Nat) (v : Value) (xs : List α) (c : List Value) (y : α) (cc : Nat) (hs : a.eval s = v) (qb : Nat) (hx : a.eval x = .slice (some ⟨qb, 0, none⟩) 1 cc) (hq : qb = w1.heap.size)
    (D : DrewR (slR e R) B g w wr [v] xs) (Y : DrewR R B g wr w1 c y) (hg : g < w.heap.size) (hone : ∀ u ∈ c, u.oneCell' = true) (hlen : xs.length + 1 ≤ maxLen) (hbytes : (xs.length + 1) * bytes ≤ 140737488355328)
    (k : ∀ g' cap' w2, DrewR (slR e R) B g w w2 [.slice (some ⟨g', 0, none⟩) (xs.length + 1) cap'] (xs ++ [y]) → wpList P ops Q rest (a.put o.dst (.slice (some ⟨g', 0, none⟩) (xs.length + 1) cap')) w2) :
    wpList P ops Q (o :: rest) a (w1.alloc (.cells c.toArray e)) := by
  have z1 := D.chg.size
  have z2 := Y.chg.size
  refine wpList_push hgd s x t ho R e i z bytes ht hi hz hsize hby hzs hsz hty w.heap.size (rng w.heap.size wr.heap.size) (rng wr.heap.size w1.heap.size) v xs c y cc hs qb hx hq (own_chg D.own Y.chg (fun j hj e => by have := hj.1; omega)) Y.own (rng_dis (.inl (Nat.le_refl _))) (fun k hk => hk.1) (fun k hk => by have := hk.1; omega) (by omega) hone hlen hbytes ?_
  intro g' cap' w2 N1 N2
  refine k g' cap' w2 ⟨N1, cur_chg Y.cur N2 (fun j hj => ?_) (by have := Y.cur.1; omega), ?_⟩
  · have h1 := hj.1.1
    have h2 := Y.cur.1
    exact ⟨by omega, by omega⟩
  · have h3 := D.chg.trans Y.chg
    exact ⟨N2.os.trans h3.os, N2.tape.trans h3.tape, N2.output.trans h3.output, Nat.le_trans h3.size N2.size, fun j hj hn => (N2.block j (by have := h3.size; omega) (fun hx => by have := hx.1.1; omega)).trans (h3.block j hj hn)⟩
end Go.Proofs.YteblffhbennpnaaDoor
