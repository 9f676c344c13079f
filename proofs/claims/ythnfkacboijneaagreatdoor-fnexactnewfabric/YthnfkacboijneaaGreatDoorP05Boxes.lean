import Derived.Test.YthnfkacboijneaaGreatDoorP04Mems
import Derived.Deep.QuietTactic
import Derived.WalkKit
import Derived.Maps.AppendAt
import Derived.Test.YthnfkacboijneaaGreatDoorP03Nums
import Derived.Deep.Cut
import Derived.Deep.DeepCutAuto
import Derived.Deep.RegionWith
namespace Go.Proofs.YthnfkacboijneaaGreatDoor
open Go.ChangeShapes Go.WideShapes Go.ChangeAt Go.RowKit
set_option linter.unusedVariables false
theorem box_below (w : World) (o : Obj) : Below w.heap.size w (w.alloc o) := (Below.refl _ w).alloc (Nat.le_refl _) o
theorem heap_at (w : World) (o : Obj) : (w.alloc o).heap[w.heap.size]? = some o := heap_alloc_new w o
theorem heap_on {w : World} {k : Nat} {x : Obj} (o : Obj) (h : w.heap[k]? = some x) : (w.alloc o).heap[k]? = some x := (Below.heap_alloc w o k (Array.getElem?_eq_some_iff.1 h).1).trans h
theorem be_drewN {B : Nat} {a w : World} (h : Below B a w) (n : Nat) : Below B a (w.drewN n) := ⟨h.os, h.tape, h.output, h.size, h.block⟩
theorem cell_keep {w w' : World} {D b o : Nat} {u : Value} (hb : Below D w w') (h : w.cell? ⟨b, o, none⟩ = some u) (hl : b < D) : w'.cell? ⟨b, o, none⟩ = some u :=
 (World.cell?_of_block (w := w) (a := ⟨b, o, none⟩) (hb.block b hl)).trans h
theorem cell_lt {w : World} {b o : Nat} {u : Value} (h : w.cell? ⟨b, o, none⟩ = some u) : b < w.heap.size := World.block_lt_of_cell? w _ h
theorem own_setC {α : Type} {R : Rep α} {w : World} {S : Foot} {cs : List Value} {x : α} {g o : Nat} {v : Value} (h : R.own w S cs x) (hg : ¬ S g) : R.own (w.setCell ⟨g, o, none⟩ v) S cs x :=
 R.own_keep h fun k hk _ => heap_setCell_other w ⟨g, o, none⟩ k v (fun e => hg (by have e' : k = g := e; rw [← e']; exact hk))
theorem below_setC {w w' : World} {B g o : Nat} {v : Value} (h : Below B w w') (hg : B ≤ g) : Below B w (w'.setCell ⟨g, o, none⟩ v) := h.setCell (p := ⟨g, o, none⟩) hg v
theorem heap_setC {w : World} {g k o : Nat} {v : Value} {x : Obj} (h : w.heap[k]? = some x) (hne : k ≠ g) : (w.setCell ⟨g, o, none⟩ v).heap[k]? = some x := (heap_setCell_other w ⟨g, o, none⟩ k v hne).trans h
theorem run_make_wide {P : Program} (t e : TypeId) (z : Value) (size bytes : Nat) (ht : P.underlying t = some (.slice e)) (hinfo : (P.info? e).map (fun i => (i.zero, i.size, i.bytes)) = some (some z, size, bytes))
    (n : Nat) (hbytes : bytes * n ≤ 281474976710656) (h63 : n ≤ 9223372036854775807) (w : World) :
    (Instr.makeSlice t (.int .i64 (n : Int)) (.int .i64 (n : Int))).run P w = .ok (.slice (some ⟨w.heap.size, 0, none⟩) n n) (w.alloc (.cells (madeCells z.cells (n * size)) e)) := by
 obtain ⟨i, hi, hzz⟩ := Option.map_eq_some_iff.1 hinfo
 simp only [Prod.mk.injEq] at hzz
 obtain ⟨hz, hs, hb⟩ := hzz
 have h2 : (i.bytes : Int) * (n : Int) ≤ 281474976710656 := by rw [hb, ← Int.natCast_mul]; omega
 have := run_make (P := P) w t e i z ht hi hz .i64 .i64 (n : Int) (n : Int) (by omega) (Int.le_refl _) h2 (by omega)
 simpa [hs] using this
theorem sumbk_ge {α : Type} (M : Mk α) (xs : List α) {x : α} {k : Nat} (hx : xs[k]? = some x) : M.bk x ≤ sumbk M xs := by
 have := sumbk_get (M := M) hx
 omega
theorem arr_of {cs : Array Value} {l : List Value} (h : cs.toList = l) : cs = l.toArray := by rw [← h]
theorem bl_drewN {B : Nat} {a w : World} (h : Below B a w) (n : Nat) : Below B a (w.drewN n) := ⟨h.os, h.tape, h.output, h.size, h.block⟩
def Old (w : World) (S : Foot) : Foot := fun k => S k ∧ k < w.heap.size
theorem own_old {α : Type} {R : Rep α} {w : World} {S : Foot} {cs : List Value} {x : α} (h : R.own w S cs x) : R.own w (Old w S) cs x :=
 R.own_mono (R.own_tight h) fun k hk => ⟨hk.1, by obtain ⟨_, cur, t, _, hh⟩ := hk; exact (Array.getElem?_eq_some_iff.1 hh).1⟩
theorem old_sub {w : World} {S : Foot} : Sub (Old w S) S := fun _ h => h.1
theorem own_box {α : Type} {R : Rep α} {w : World} {S : Foot} {cs : List Value} {x : α} (o : Obj) (h : R.own w S cs x) : R.own (w.alloc o) S cs x := R.own_keep h fun k _ hl => Below.heap_alloc w o k hl
section
variable {α : Type}
theorem appR_any {e : TypeId} {R : Rep α} {S : Foot} {w w1 w2 : World} {o : Obj} {v v' : Value} {xs : List α} {c : List Value} {x : α} (hty : e ∉ R.tys) (h : (slR e R).own w S [v] xs) (hm : MadeR R w w1 c x)
    (happ : ∀ rows, w.ownsRow 0 e R.size v xs.length rows → w2.ownsRow 0 e R.size v' (xs.length + 1) (rows ++ c)) (hg : (w1.alloc o).grownBy w2 v.ownBlock) (hb : v'.ownBlock = v.ownBlock ∨ ∃ k, v'.ownBlock = some k ∧ w.heap.size ≤ k) :
    (slR e R).own w2 (fun k => Old w S k ∨ w.heap.size ≤ k) [v'] (xs ++ [x]) ∧ Chg (Old w S) w w2 := by
 obtain ⟨v1, rows, S', hv, hr, hgg, hs, hl⟩ := own_old h
 simp only [List.cons.injEq, and_true] at hv
 subst hv
 have hr2 := happ rows hr
 have s1 := hm.2.size
 have s2 : w1.heap.size + 1 ≤ w2.heap.size := by have := hg.size; simpa using this
 have lt := lown_tight hl
 have ot := R.own_tight hm.1
 have keepw : ∀ k, k < w1.heap.size → v.ownBlock ≠ some k → w2.heap[k]? = w1.heap[k]? := fun k hk hne => by
  rw [hg.block k (by simp; omega) (fun e => hne e.symm), Below.heap_alloc w1 o k hk]
 have L2 : lown R w2 (fun k => S' k ∧ ∃ cur t, t ∈ R.tys ∧ w.heap[k]? = some (.cells cur t (0, 0))) rows xs := lown_keep lt fun k hk hlk => by
  rw [keepw k (by omega) (fun e => (hgg k e).2 hk.1), hm.2.block k hlk]
 have O2 : R.own w2 (fun k => rng w.heap.size w1.heap.size k ∧ ∃ cur t, t ∈ R.tys ∧ w1.heap[k]? = some (.cells cur t (0, 0))) c x := R.own_keep ot fun k hk hlk =>
  keepw k hlk (fun e => by have := (hgg k e).1.2; have := hk.1.1; omega)
 refine ⟨⟨v', rows ++ c, (fun k => (S' k ∧ ∃ cur t, t ∈ R.tys ∧ w.heap[k]? = some (.cells cur t (0, 0))) ∨ (rng w.heap.size w1.heap.size k ∧ ∃ cur t, t ∈ R.tys ∧ w1.heap[k]? = some (.cells cur t (0, 0)))), rfl, by rw [List.length_append]; exact hr2, fun g hg' => ?_, ?_, lown_push L2 O2 ?_ (fun k h => .inl h) (fun k h => .inr h)⟩, ?_⟩
 ·obtain ⟨cur, hcur⟩ := row_block hr2 hg'
  refine ⟨?_, ?_⟩
  ·rcases hb with hb | ⟨k, hk, hk2⟩
   ·rw [hb] at hg'
    exact .inl (hgg g hg').1
   ·rw [hg'] at hk
    cases hk
    exact .inr hk2
  ·rintro (⟨h1, cur', t, ht, hh⟩ | ⟨h1, cur', t, ht, hh⟩)
   ·have hlk : g < w.heap.size := (Array.getElem?_eq_some_iff.1 hh).1
    have : w2.heap[g]? = w.heap[g]? := by rw [keepw g (by omega) (fun e => (hgg g e).2 h1), hm.2.block g hlk]
    rw [hcur, hh] at this
    simp at this
    rw [this.2] at hty
    exact hty ht
   ·have hlk : g < w1.heap.size := (Array.getElem?_eq_some_iff.1 hh).1
    have : w2.heap[g]? = w1.heap[g]? := keepw g hlk (fun e => by have := (hgg g e).1.2; have := h1.1; omega)
    rw [hcur, hh] at this
    simp at this
    rw [this.2] at hty
    exact hty ht
 ·rintro k (⟨h1, _⟩ | ⟨h1, _⟩)
  ·exact .inl (hs k h1)
  ·exact .inr h1.1
 ·rintro k ⟨h1, _⟩ ⟨h2, _⟩
  have := (hs k h1).2
  have := h2.1
  omega
 ·have e1 : w2.os = w.os := hg.os.trans hm.2.os
  have e2 : w2.tape = w.tape := hg.tape.trans hm.2.tape
  have e3 : w2.output = w.output := hg.output.trans hm.2.output
  refine ⟨e1, e2, e3, by omega, fun k hk hn => ?_⟩
  rw [keepw k (by omega) (fun e => hn (hgg k e).1), hm.2.block k hk]
end
theorem rows_unique {w : World} {base base' e size n : Nat} {v : Value} {xs ys : List Value} (h : w.ownsRow base e size v n xs) (k : w.ownsRow base' e size v n ys) : xs = ys := by
 rcases h.2 with ⟨rfl, rfl⟩ | ⟨g, cap, cur, rfl, _, hg, _, _, _, ht⟩
 ·have h1 := h.1
  have k1 := k.1
  rw [List.eq_nil_of_length_eq_zero (l := xs) (by rw [h1]; omega), List.eq_nil_of_length_eq_zero (l := ys) (by rw [k1]; omega)]
 ·rcases k.2 with ⟨h', _⟩ | ⟨g', cap', cur', h', _, hg', _, _, _, ht'⟩
  ·simp at h'
  ·simp only [Value.slice.injEq, Option.some.injEq, Addr.mk.injEq, and_true, true_and] at h'
   obtain ⟨rfl, rfl⟩ := h'
   rw [hg] at hg'
   simp only [Option.some.injEq, Obj.cells.injEq] at hg'
   rw [← ht, ← ht', hg'.1]
theorem owns_shape {w : World} {base e size n : Nat} {v : Value} {xs : List Value} (h : w.ownsRow base e size v (n + 1) xs) : ∃ g cap, v = .slice (some ⟨g, 0, none⟩) (n + 1) cap := by
 rcases h.2 with ⟨_, h0⟩ | ⟨g, cap, cur, rfl, _⟩
 ·omega
 ·exact ⟨g, cap, rfl⟩
section
variable {α : Type}
theorem app_made {e : TypeId} {R : Rep α} {w0 w w1 w2 : World} {o : Obj} {v v' : Value} {xs : List α} {c : List Value} {x : α} {rows0 : List Value} (hty : e ∉ R.tys) (h : MadeR (slR e R) w0 w [v] xs) (hm : MadeR R w w1 c x)
    (hr : w.ownsRow w0.heap.size e R.size v xs.length rows0) (hown' : w2.ownsRow w0.heap.size e R.size v' (xs.length + 1) (rows0 ++ c)) (hg : (w1.alloc o).grownBy w2 v.ownBlock) : MadeR (slR e R) w0 w2 [v'] (xs ++ [x]) :=
 appR_step hty h hm (fun rows hr' => by rw [rows_unique hr' hr]; exact hown') hg
theorem made_none {e : TypeId} {R : Rep α} (w : World) : MadeR (slR e R) w (w.alloc (.cells #[] e)) [.slice (some ⟨w.heap.size, 0, none⟩) 0 0] [] := by
 refine ⟨⟨_, [], fun _ => False, rfl, World.ownsRow_lit (base := 0) (e := e) (size := R.size) w #[] 0 (Nat.zero_le _) (Nat.zero_le _) (by simp), fun g hg => ?_, fun _ h => h.elim, rfl⟩, box_below w _⟩
 simp [Value.ownBlock] at hg
 subst hg
 exact ⟨⟨Nat.le_refl _, by simp⟩, fun h => h⟩
end
theorem cells_news (w : World) (cs : List Value) (t : TypeId) : ∀ j u, cs[j]? = some u → (w.alloc (.cells cs.toArray t)).cell? ((⟨w.heap.size, 0, none⟩ : Addr).add j) = some u := by
 intro j u hu
 have X := heap_at w (.cells cs.toArray t)
 rw [show (⟨w.heap.size, 0, none⟩ : Addr).add j = ⟨w.heap.size, j, none⟩ from by simp [Addr.add] <;> omega, cell_of_row _ _ j _ _ (0, 0) X]
 simpa using hu
theorem step_run {P : Program} {ops : Array Oper} {o : Oper} {a : Act} {w w' : World} {K : Act → World → Prop} {Q : Exit → Act → World → Prop} {E : Prop} (hgd : o.guard = none) (s x : Operand) (t ty : TypeId)
    (ho : o.op = .call { callee := .builtin .append, args := #[s, x], argTypes := #[t, t] }) (hty : o.type = ty) (v v2 v' : Value) (hs : a.eval s = v) (hx : a.eval x = v2)
    (hrun : (Builtin.append_ #[t, t] ty #[v, v2]).run P w = .ok v' w') (hK : K (a.put o.dst v') w') : if Region.wanted o (yielded ops a.tmps) = true then Oper.wp P o a w K Q else E := by
 have hw : Region.wanted o (yielded ops a.tmps) = true := by simp [Region.wanted, hgd]
 rw [if_pos hw]
 unfold Oper.wp execOp
 simp only [ho, hty, resolve, invoke, builtin, Sem.run_bind, Sem.run_pure, Result.andThen_ok, List.map_toArray, List.map_cons, List.map_nil, hs, hx, hrun]
 exact hK
variable {α : Type}
def Owned (R : Rep α) (lo hi : Nat) (w : World) (cs : List Value) (x : α) : Prop := R.own w (rng lo hi) cs x ∧ hi ≤ w.heap.size
theorem owned_next {R : Rep α} {lo hi : Nat} {w w' : World} {cs : List Value} {x : α} (h : Owned R lo hi w cs x) (hb : Below w.heap.size w w') : Owned R lo hi w' cs x :=
 ⟨own_stay h.1 hb h.2, Nat.le_trans h.2 hb.size⟩
theorem owned_chg {R : Rep α} {lo hi lo' hi' : Nat} {w w' : World} {cs : List Value} {x : α} (h : Owned R lo hi w cs x) (hc : Chg (rng lo' hi') w w') (hd : hi ≤ lo' ∨ hi' ≤ lo) : Owned R lo hi w' cs x :=
 ⟨own_chg h.1 hc (rng_dis hd), Nat.le_trans h.2 hc.size⟩
theorem owned_made {R : Rep α} {w w1 : World} {cs : List Value} {x : α} (h : MadeR R w w1 cs x) : Owned R w.heap.size w1.heap.size w1 cs x := ⟨h.1, Nat.le_refl _⟩
theorem owned_drew {R : Rep α} {lo hi : Nat} {w : World} {cs : List Value} {x : α} (h : Owned R lo hi w cs x) : Owned R lo hi w.drew cs x := ⟨R.own_keep h.1 fun _ _ _ => rfl, h.2⟩
theorem row_chg {w w' : World} {k lo hi : Nat} {o : Obj} (h : w.heap[k]? = some o) (hc : Chg (rng lo hi) w w') (hk : k < lo ∨ hi ≤ k) : w'.heap[k]? = some o :=
 (hc.block k (Array.getElem?_eq_some_iff.1 h).1 fun x => by have := x.1; have := x.2; omega).trans h
theorem chg_b0 {w0 w w' : World} {lo hi : Nat} (hb : Below w0.heap.size w0 w) (hc : Chg (rng lo hi) w w') (hl : w0.heap.size ≤ lo) : Below w0.heap.size w0 w' :=
 hc.below hb (fun k hk => by have := hk.1; omega) hb.size
theorem chg_from_box {w w' : World} {S : Foot} {o : Obj} (h : Chg S (w.alloc o) w') : Chg S w w' :=
 ⟨h.os, h.tape, h.output, Nat.le_trans (by simp) h.size, fun k hk hn => (h.block k (by simp; omega) hn).trans (Below.heap_alloc w o k hk)⟩
section
variable {α : Type}
def cell1 : List Value → Value
 | [v] => v
 | _ => undef
def aggV (cs : List Value) : Value := .agg cs.toArray
abbrev lot : Nat := 4398046511104
def SzC (f : Nat) (R : Rep α) (M : Mk α) (V : List Value → Value) : Prop := ∀ (cs : List Value) (x : α) (left : Int) (w : World), R.rd w cs x → 0 ≤ left → left ≤ 1048576 →
 Calls Tryz.prog f #[V cs, .int .i64 left] w fun e w' => e = .returned (.int .i64 (szI (M.bk x) left)) ∧ Below w.heap.size w w'
def ToC (f : Nat) (R : Rep α) (M : Mk α) (V : List Value → Value) : Prop := ∀ (cs : List Value) (x : α) (w : World), R.rd w cs x → M.bk x ≤ 1048576 →
 Calls Tryz.prog f #[V cs] w fun e w' => ∃ ds, e = .returned (V ds) ∧ MadeR R w w' ds x
def EqC (f : Nat) (R : Rep α) (M : Mk α) (V : List Value → Value) : Prop := ∀ (cs ds : List Value) (x : α) (w : World), R.rd w cs x → R.rd w ds x → M.bk x ≤ lot →
 Calls Tryz.prog f #[V cs, V ds] w fun e w' => e = .returned (.bool true) ∧ Below w.heap.size w w'
def MkC (f : Nat) (R : Rep α) (M : Mk α) (V : List Value → Value) : Prop := ∀ (S : Foot) (cs : List Value) (x : α) (k : Int) (w : World), R.own w S cs x → 0 ≤ k → k + (M.cV x : Int) ≤ (lot : Int) → M.bk x ≤ lot →
 Calls Tryz.prog f #[V cs, .int .i64 k] w fun e w' => e = .returned (.int .i64 (k + (M.cV x : Int))) ∧ R.own w' S cs (M.mV k x) ∧ Chg S w w'
def HdC (f : Nat) (R : Rep α) (M : Mk α) (V : List Value → Value) : Prop := ∀ (cs : List Value) (x : α) (k : Int) (w : World), R.rd w cs (M.mV k x) → 0 ≤ k → k + (M.cV x : Int) ≤ (lot : Int) → M.bk x ≤ lot →
 Calls Tryz.prog f #[V cs, .int .i64 k] w fun e w' => e = .returned (.int .i64 (k + (M.cV x : Int))) ∧ Below w.heap.size w w'
end
theorem own_cell {α : Type} {e : TypeId} {R : Rep α} {w : World} {S : Foot} {cs : List Value} {x : List α} (h : (slR e R).own w S cs x) : ∃ v, cs = [v] := List.length_eq_one_iff.1 ((slR e R).rd_len ((slR e R).own_rd h))
theorem be_eq {w w' : World} (h : w' = w) : Below w.heap.size w w' := by rw [h]; exact Below.refl _ _
theorem toInts_u : ToC 127 intsR intsM cell1 := by
 rintro cs x w ⟨a, cap, rfl, l1, l2, l3⟩ hm
 refine (toInt64S_rep a x cap w l3 hm).mono ?_
 rintro e w' ⟨v, rfl, mm⟩
 exact ⟨[v], rfl, mm⟩
theorem eqInts_u : EqC 139 intsR intsM cell1 := by
 rintro cs ds x w ⟨a, cap, rfl, l1, l2, l3⟩ ⟨b, cp, rfl, k1, k2, k3⟩ hm
 refine (eqInt64S_rep a b x cap cp w l3 k3 (by have : lot = 4398046511104 := rfl; omega)).mono ?_
 rintro e w' ⟨q, n, rfl⟩
 exact ⟨q, be_drewN (Below.refl _ _) n⟩
theorem mkInts_u : MkC 68 intsR intsM cell1 := by
 intro S cs x k w h h0 hm hb
 obtain ⟨v, rfl⟩ := own_cell h
 have e : lot = 4398046511104 := rfl
 have e2 : intsM.cV x = slcnt intM x := rfl
 exact markInt64S_rep S v k x w h0 (by omega) (by omega) h
theorem hdInts_u : HdC 146 intsR intsM cell1 := by
 rintro cs x k w ⟨a, cap, rfl, l1, l2, l3⟩ h0 hm hb
 have e : lot = 4398046511104 := rfl
 have e2 : intsM.cV x = slcnt intM x := rfl
 have := heldInt64S_rep a cap k x w h0 (by omega) (by omega) l3
 rw [show x.length = (intsM.mV k x).length from (slmark_len _ _ _).symm] at this
 exact this.mono fun e w' ⟨q, r⟩ => ⟨q, be_eq r⟩
variable {α β : Type}
def Sight (R : Rep α) (n : Nat) (w : World) (cs : List Value) (x : α) : Prop := ∃ w0 : World, R.rd w0 cs x ∧ w0.heap.size = n ∧ n ≤ w.heap.size ∧ ∀ k, k < n → w.heap[k]? = w0.heap[k]?
theorem sight_of {R : Rep α} {w : World} {cs : List Value} {x : α} (h : R.rd w cs x) : Sight R w.heap.size w cs x := ⟨w, h, rfl, Nat.le_refl _, fun _ _ => rfl⟩
theorem sight_rd {R : Rep α} {n : Nat} {w : World} {cs : List Value} {x : α} (h : Sight R n w cs x) : R.rd w cs x := by
 obtain ⟨w0, h1, h2, h3, h4⟩ := h
 exact R.rd_keep h1 fun k hk => h4 k (h2 ▸ hk)
theorem sight_next {R : Rep α} {n : Nat} {w w' : World} {cs : List Value} {x : α} (h : Sight R n w cs x) (hb : Below w.heap.size w w') : Sight R n w' cs x := by
 obtain ⟨w0, h1, h2, h3, h4⟩ := h
 exact ⟨w0, h1, h2, Nat.le_trans h3 hb.size, fun k hk => (hb.block k (Nat.lt_of_lt_of_le hk h3)).trans (h4 k hk)⟩
theorem sight_chg {R : Rep α} {n lo hi : Nat} {w w' : World} {cs : List Value} {x : α} (h : Sight R n w cs x) (hc : Chg (rng lo hi) w w') (hl : n ≤ lo) : Sight R n w' cs x := by
 obtain ⟨w0, h1, h2, h3, h4⟩ := h
 exact ⟨w0, h1, h2, Nat.le_trans h3 hc.size, fun k hk => (hc.block k (Nat.lt_of_lt_of_le hk h3) fun p => by have := p.1; omega).trans (h4 k hk)⟩
theorem sight_lt {R : Rep α} {n : Nat} {w : World} {cs : List Value} {x : α} (h : Sight R n w cs x) : n ≤ w.heap.size := by
 obtain ⟨w0, h1, h2, h3, h4⟩ := h
 exact h3
section
variable {α β : Type}
def Bv (M : Mk α) (K : Nat) : Prop := ∀ x, M.cV x ≤ K * M.bk x
theorem bv_int : Bv intM 0 := fun _ => by simp [intM]
theorem bv_bool : Bv boolM 0 := fun _ => by simp [boolM]
theorem bv_prod {M : Mk α} {N : Mk β} {K L : Nat} (h : Bv M K) (k : Bv N L) : Bv (prodM M N) (K + L) := fun x => by
 have h1 := h x.1
 have h2 := k x.2
 show M.cV x.1 + N.cV x.2 ≤ (K + L) * (M.bk x.1 + N.bk x.2)
 have e1 : K * M.bk x.1 ≤ K * (M.bk x.1 + N.bk x.2) := Nat.mul_le_mul_left _ (by omega)
 have e2 : L * N.bk x.2 ≤ L * (M.bk x.1 + N.bk x.2) := Nat.mul_le_mul_left _ (by omega)
 rw [Nat.add_mul]
 omega
theorem bv_sl {M : Mk α} {K : Nat} (h : Bd M K) : Bv (slM M) K := slcnt_bd h
end
end Go.Proofs.YthnfkacboijneaaGreatDoor
