
/- The draws of a layout and a list of ops, of a list of ops, of programs and descs: they read as some, and nothing that was there turns. Conditions: the bytes are at most 2^61. -/
import Derived.Test.YteblffhbennpnaaDoorDrawProg
import Derived.Test.YteblffhbennpnaaDoorDrawCfg2
import Derived.Test.YteblffhbennpnaaDoorOpSS
import Derived.Test.YteblffhbennpnaaDoorElem
import Derived.Test.YteblffhbennpnaaDoorOwned
namespace Go.Proofs.YteblffhbennpnaaDoor
open Go.ChangeShapes Go.WideShapes Go.ChangeAt Go.RowKit
set_option linter.unusedVariables false

def slen : Value → Nat
  | .slice _ n _ => n
  | _ => 0
def ProgP (w : World) (e : Ending) (w' : World) : Prop :=
  ∃ (cc cs cy cl : Int) (xs : List OpD) (a : Option Addr) (cap : Nat), e = .returned (.tuple #[.agg #[.int .i64 cc, .int .i64 cs, .int .i64 cy, .int .i64 cl], .slice a xs.length cap]) ∧ xs.length ≤ 31 ∧ SlRd opR w' a xs ∧ Below w.heap.size w w'
theorem put_4p {w : World} {g : Nat} {x0 x1 x2 x3 y0 y1 y2 y3 : Value} {t : TypeId} (h : w.heap[g]? = some (.cells #[x0, x1, x2, x3] t (0, 0))) : ((((w.setCell ⟨g, 0, none⟩ (y0)).setCell ⟨g, 1, none⟩ (y1)).setCell ⟨g, 2, none⟩ (y2)).setCell ⟨g, 3, none⟩ (y3)).heap[g]? = some (.cells #[y0, y1, y2, y3] t (0, 0)) := by
  have h0 : (w.setCell ⟨g, 0, none⟩ y0).heap[g]? = some (.cells #[y0, x1, x2, x3] t (0, 0)) := heap_setCell_same _ g 0 _ t y0 h
  have h1 : ((w.setCell ⟨g, 0, none⟩ y0).setCell ⟨g, 1, none⟩ y1).heap[g]? = some (.cells #[y0, y1, x2, x3] t (0, 0)) := heap_setCell_same _ g 1 _ t y1 h0
  have h2 : (((w.setCell ⟨g, 0, none⟩ y0).setCell ⟨g, 1, none⟩ y1).setCell ⟨g, 2, none⟩ y2).heap[g]? = some (.cells #[y0, y1, y2, x3] t (0, 0)) := heap_setCell_same _ g 2 _ t y2 h1
  exact heap_setCell_same _ g 3 _ t y3 h2
theorem row8_boxP {w : World} {a : Option Addr} {len : Nat} {zs : List Int} (h : Row8 w a len zs) (o : Obj) : Row8 (w.alloc o) a len zs := row8_below h (box_below w o)
/-- A layout and a list are drawn: the layout's box and the result's lie below. -/
structure DP {α : Type} (R : Rep (List α)) (gg : Nat) (w w3 wr : World) (cb : Nat) (cc cs cy cl : Int) (v : Value) (xs : List α) : Prop where
  drew : DrewR R gg gg w3 wr [v] xs
  res : w3.heap[w.heap.size]? = some (.cells #[.int .i64 0, .int .i64 0, .int .i64 0, .int .i64 0] 25 (0, 0))
  box : w3.heap[cb]? = some (.cells #[.int .i64 cc, .int .i64 cs, .int .i64 cy, .int .i64 cl] 25 (0, 0))
  bel : Below w.heap.size w w3
  lt : w.heap.size < gg ∧ gg < cb ∧ cb < w3.heap.size
theorem dp_with {α : Type} {R : Rep (List α)} {gg cb : Nat} {w w3 wr w' : World} {cc cs cy cl : Int} {v v' : Value} {xs xs' : List α} (h : DP R gg w w3 wr cb cc cs cy cl v xs) (d : DrewR R gg gg w3 w' [v'] xs') : DP R gg w w3 w' cb cc cs cy cl v' xs' := ⟨d, h.res, h.box, h.bel, h.lt⟩
theorem dp_grown {α : Type} {R : Rep (List α)} {gg cb : Nat} {w w3 wr w' : World} {cc cs cy cl : Int} {v : Value} {xs : List α} (h : DP R gg w w3 wr cb cc cs cy cl v xs) (hg : wr.grownBy w' (some gg)) (hc : Cur gg w' gg) : DP R gg w w3 w' cb cc cs cy cl v xs := dp_with h (drew_grown h.drew hg hc (by have := h.lt; omega))
theorem dp_res {α : Type} {R : Rep (List α)} {gg cb : Nat} {w w3 wr : World} {cc cs cy cl : Int} {v : Value} {xs : List α} (h : DP R gg w w3 wr cb cc cs cy cl v xs) : wr.heap[w.heap.size]? = some (.cells #[.int .i64 0, .int .i64 0, .int .i64 0, .int .i64 0] 25 (0, 0)) := by
  have hl := h.lt
  exact (h.drew.chg.block _ (by omega) (by omega)).trans h.res
theorem dp_box {α : Type} {R : Rep (List α)} {gg cb : Nat} {w w3 wr : World} {cc cs cy cl : Int} {v : Value} {xs : List α} (h : DP R gg w w3 wr cb cc cs cy cl v xs) : wr.heap[cb]? = some (.cells #[.int .i64 cc, .int .i64 cs, .int .i64 cy, .int .i64 cl] 25 (0, 0)) := by
  have hl := h.lt
  exact (h.drew.chg.block _ (by omega) (by omega)).trans h.box
theorem dp_end {α : Type} {R : Rep (List α)} {gg cb : Nat} {w w3 wr W : World} {cc cs cy cl : Int} {v : Value} {xs : List α} (h : DP R gg w w3 wr cb cc cs cy cl v xs) (c : Chg (fun b => b = w.heap.size) wr W) : R.own W (rng w3.heap.size wr.heap.size) [v] xs ∧ Below w.heap.size w W := by
  have hl := h.lt
  have h1 := h.drew.chg.below h.bel (fun k hk => by omega) (by omega)
  exact ⟨own_chg h.drew.own c (fun j hj e => by have := hj.1; omega), c.below h1 (fun k hk => by omega) h1.size⟩
theorem own_one0 {w : World} {S : Foot} : opR.own w S [.int .i64 1, .int .i64 0, .int .i64 0, .int .i64 0] (1, 0, 0, 0) := own_op (u := (1, 0, 0, 0)) ⟨small64 (x := 1) (by omega) (by omega), small64 (x := 0) (by omega) (by omega), small64 (x := 0) (by omega) (by omega), small64 (x := 0) (by omega) (by omega)⟩
theorem drew_ops {B g : Nat} {w w' : World} {a : Option Addr} {cap : Nat} {xs : List OpD} {S : Foot} (h : opsR.own w' S [.slice a xs.length cap] xs) : SlRd opR w' a xs := ops_rd h
end Go.Proofs.YteblffhbennpnaaDoor
