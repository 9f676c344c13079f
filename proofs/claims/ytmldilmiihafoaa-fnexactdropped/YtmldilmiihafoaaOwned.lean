/- What a walk of a law owns, range by range. No program here. -/
import Derived.Test.YtmldilmiihafoaaStoreEnd
import Derived.Test.YtmldilmiihafoaaMarks2
namespace Go.Proofs.Ytmldilmiihafoaa
open Go.ChangeShapes Go.WideShapes Go.ChangeAt Go.RowKit
set_option linter.unusedVariables false

section
variable {α : Type}
def Owned (R : Rep α) (lo hi : Nat) (w : World) (cs : List Value) (x : α) : Prop := R.own w (rng lo hi) cs x ∧ hi ≤ w.heap.size
theorem owned_next {R : Rep α} {lo hi : Nat} {w w' : World} {cs : List Value} {x : α} (h : Owned R lo hi w cs x) (hb : Below w.heap.size w w') : Owned R lo hi w' cs x :=
  ⟨own_stay h.1 hb h.2, Nat.le_trans h.2 hb.size⟩
theorem owned_chg {R : Rep α} {lo hi lo' hi' : Nat} {w w' : World} {cs : List Value} {x : α} (h : Owned R lo hi w cs x) (hc : Chg (rng lo' hi') w w') (hd : hi ≤ lo' ∨ hi' ≤ lo) : Owned R lo hi w' cs x :=
  ⟨own_chg h.1 hc (rng_dis hd), Nat.le_trans h.2 hc.size⟩
theorem owned_made {R : Rep α} {w w1 : World} {cs : List Value} {x : α} (h : MadeR R w w1 cs x) : Owned R w.heap.size w1.heap.size w1 cs x := ⟨h.1, Nat.le_refl _⟩
theorem owned_drew {R : Rep α} {lo hi : Nat} {w : World} {cs : List Value} {x : α} (h : Owned R lo hi w cs x) : Owned R lo hi w.drew cs x := ⟨R.own_keep h.1 fun _ _ _ => rfl, h.2⟩
end
theorem row_chg {w w' : World} {k lo hi : Nat} {o : Obj} (h : w.heap[k]? = some o) (hc : Chg (rng lo hi) w w') (hk : k < lo ∨ hi ≤ k) : w'.heap[k]? = some o :=
  (hc.block k (Array.getElem?_eq_some_iff.1 h).1 fun x => by have := x.1; have := x.2; omega).trans h
theorem chg_b0 {w0 w w' : World} {lo hi : Nat} (hb : Below w0.heap.size w0 w) (hc : Chg (rng lo hi) w w') (hl : w0.heap.size ≤ lo) : Below w0.heap.size w0 w' :=
  hc.below hb (fun k hk => by have := hk.1; omega) hb.size
theorem owned_two {lo hi : Nat} {w : World} {c : CacheD} {a b : Option Addr} {cap cp : Nat} (h : Owned cacheR lo hi w [.slice a c.1.length cap, .slice b c.2.length cp] c) : SlRd waysR w a c.1 ∧ SlRd intR w b c.2 := rd_slices (cacheR.own_rd h.1)
theorem way_ints {S : Foot} {w : World} {l s : Int} {v : Value} {u : WayD} (h : wayR.own w S [.int .i64 l, .int .i64 s, v] u) : intsR.own w S [v] u.2.2 := by
  obtain ⟨v', e, _, _, ho⟩ := way_own h
  simp only [List.cons.injEq, and_true] at e
  rw [e.2.2]
  exact ho
theorem ints_rd {S : Foot} {w : World} {a : Option Addr} {cap : Nat} {d : List Int} (h : intsR.own w S [.slice a d.length cap] d) : SlRd intR w a d := by
  obtain ⟨a', cap', e, _, _, hr⟩ := intsR.own_rd h
  simp only [List.cons.injEq, Value.slice.injEq, and_true, true_and] at e
  obtain ⟨rfl, rfl⟩ := e
  exact hr
theorem owned_way {lo hi : Nat} {w : World} {l s : Int} {a : Option Addr} {cap : Nat} {u : WayD} (h : Owned wayR lo hi w [.int .i64 l, .int .i64 s, .slice a u.2.2.length cap] u) : SlRd intR w a u.2.2 := ints_rd (way_ints h.1)
theorem owned_wayd {lo hi : Nat} {w : World} {l s l' s' : Int} {a : Option Addr} {cap : Nat} {d : List Int} (h : Owned wayR lo hi w [.int .i64 l, .int .i64 s, .slice a d.length cap] (l', s', d)) : SlRd intR w a d := owned_way (u := (l', s', d)) h
theorem way_intsd {S : Foot} {w : World} {l s l' s' : Int} {v : Value} {d : List Int} (h : wayR.own w S [.int .i64 l, .int .i64 s, v] (l', s', d)) : intsR.own w S [v] d := way_ints (u := (l', s', d)) h
theorem bd_way : Bd wayM 3 := bd_prod bd_int (bd_prod bd_int (bd_sl bd_int))
theorem cnt_small {c : CacheD} (h : cacheM.bk c ≤ 1048576) : cntC c ≤ 4194304 ∧ c.1.length ≤ 1048576 := by
  have hbk : cacheM.bk c = setsM.bk c.1 + intsM.bk c.2 := rfl
  have h1 := slcnt_bd (bd_sl bd_way) c.1
  have h2 := slcnt_bd bd_int c.2
  have h3 : cntC c = slcnt waysM c.1 + slcnt intM c.2 := rfl
  have h4 : (slM (slM wayM)).bk c.1 = setsM.bk c.1 := rfl
  have h5 : (slM intM).bk c.2 = intsM.bk c.2 := rfl
  have h6 : setsM.bk c.1 = c.1.length + sumbk waysM c.1 := rfl
  have h7 : slcnt (slM wayM) c.1 = slcnt waysM c.1 := rfl
  constructor
  · omega
  · omega
end Go.Proofs.Ytmldilmiihafoaa
