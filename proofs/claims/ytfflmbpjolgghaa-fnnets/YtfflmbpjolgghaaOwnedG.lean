/- What a law owns while it walks: kept by what comes later, and by marks elsewhere. No program here. -/
import Derived.Test.YtfflmbpjolgghaaMsgMarks
import Derived.Deep.DeepCutAuto
import Derived.Deep.RegionWith
namespace Go.Proofs.Ytfflmbpjolgghaa
open Go.ChangeShapes Go.WideShapes Go.ChangeAt Go.RowKit
set_option linter.unusedVariables false

section
variable {α : Type}
def Owned (R : Rep α) (lo hi : Nat) (w : World) (cs : List Value) (x : α) : Prop := R.own w (rng lo hi) cs x ∧ hi ≤ w.heap.size
theorem owned_next {R : Rep α} {lo hi : Nat} {w w' : World} {cs : List Value} {x : α} (h : Owned R lo hi w cs x) (hb : Below w.heap.size w w') : Owned R lo hi w' cs x :=
  ⟨own_stay h.1 hb h.2, Nat.le_trans h.2 hb.size⟩
theorem owned_chg {R : Rep α} {lo hi lo' hi' : Nat} {w w' : World} {cs : List Value} {x : α} (h : Owned R lo hi w cs x) (hc : Chg (rng lo' hi') w w') (hd : hi ≤ lo' ∨ hi' ≤ lo) : Owned R lo hi w' cs x :=
  ⟨own_chg h.1 hc (rng_dis hd), Nat.le_trans h.2 hc.size⟩
theorem owned_made {R : Rep α} {w w1 : World} {cs : List Value} {x : α} (h : MadeR R w w1 cs x) : Owned R w.heap.size w1.heap.size w1 cs x := ⟨h.1, Nat.le_refl _⟩
theorem owned_drew {R : Rep α} {lo hi : Nat} {w : World} {cs : List Value} {x : α} (h : Owned R lo hi w cs x) : Owned R lo hi w.drew cs x := ⟨R.own_keep h.1 fun _ _ _ => rfl, h.2⟩
end
theorem row_chg {w w' : World} {k lo hi : Nat} {o : Obj} (h : w.heap[k]? = some o) (hc : Chg (rng lo hi) w w') (hk : k < lo ∨ hi ≤ k) : w'.heap[k]? = some o :=
  (hc.block k (Array.getElem?_eq_some_iff.1 h).1 fun x => by have := x.1; have := x.2; omega).trans h
theorem chg_b0 {w0 w w' : World} {lo hi : Nat} (hb : Below w0.heap.size w0 w) (hc : Chg (rng lo hi) w w') (hl : w0.heap.size ≤ lo) : Below w0.heap.size w0 w' :=
  hc.below hb (fun k hk => by have := hk.1; omega) hb.size
theorem ints_rd7 {S : Foot} {w : World} {a : Option Addr} {cap : Nat} {d : List Int} (h : intsR.own w S [.slice a d.length cap] d) : SlRd intR w a d := by
  obtain ⟨a', cap', e, _, _, hs⟩ := intsR.own_rd h
  simp only [List.cons.injEq, Value.slice.injEq, and_true, true_and] at e
  rw [e.1]
  exact hs
theorem owned_msgs {lo hi : Nat} {w : World} {a : Option Addr} {cap : Nat} {xs : List MsgD} (h : Owned msgsR lo hi w [.slice a xs.length cap] xs) : SlRd msgR w a xs := msgs_rd h.1
theorem msg_intsd {S : Foot} {w : World} {f0 f1 f2 f3 f4 f6 : Int} {v : Value} {u : MsgD} (h : msgR.own w S [.int .i64 f0, .int .i64 f1, .int .i64 f2, .int .i64 f3, .int .i64 f4, v, .int .i64 f6] u) : intsR.own w S [v] u.2.2.2.2.2.1 := by
  obtain ⟨v', e, _, _, _, _, _, _, ho⟩ := msg_own h
  simp only [List.cons.injEq, and_true] at e
  rw [e.2.2.2.2.2.1]
  exact ho
theorem owned_msgd {lo hi : Nat} {w : World} {f0 f1 f2 f3 f4 f6 g0 g1 g2 g3 g4 g6 : Int} {a : Option Addr} {cap : Nat} {d : List Int} (h : Owned msgR lo hi w [.int .i64 f0, .int .i64 f1, .int .i64 f2, .int .i64 f3, .int .i64 f4, .slice a d.length cap, .int .i64 f6] (g0, g1, g2, g3, g4, d, g6)) : SlRd intR w a d := ints_rd7 (msg_intsd h.1)
theorem bk_ints7 (d : List Int) : intsM.bk d = d.length := by
  have h1 : intsM.bk d = d.length + sumbk intM d := rfl
  have h2 : sumbk intM d = 0 := by
    induction d with
    | nil => rfl
    | cons x xs ih => simp only [sumbk, List.map_cons, List.sum_cons] at ih ⊢; rw [ih rfl]; rfl
  omega
theorem bd_msg : Bd msgM 7 := bd_prod bd_int (bd_prod bd_int (bd_prod bd_int (bd_prod bd_int (bd_prod bd_int (bd_prod (bd_sl bd_int) bd_int)))))
theorem cnt_small7 {xs : List MsgD} (h : msgsM.bk xs ≤ 2097152) : slcnt msgM xs ≤ 14680064 := by
  have := slcnt_bd bd_msg xs
  have e : (slM msgM).bk xs = msgsM.bk xs := rfl
  omega
end Go.Proofs.Ytfflmbpjolgghaa
