import Derived.Test.YtmdhblhdfcocjaaGreatDoorP00Box
import Derived.Maps.OwnSet
import Derived.DeepKeys4
import Derived.WideKeyEntry
import Derived.Orders
import Derived.Test.YtmdhblhdfcocjaaGreatDoorProg
import Derived.RowKit
import Derived.Deep.CutBlock
import Derived.OwnWalk
import Derived.Test.YtmdhblhdfcocjaaGreatDoorP03
namespace Go.Proofs.YtmdhblhdfcocjaaGreatDoor
set_option maxHeartbeats 2000000
set_option maxRecDepth 100000
open Go.ChangeShapes Go.WideShapes Go.RowKit
open Go.Maps (Keyed has_put_same has_put_other atKey_put_same atKey_put_other)
set_option linter.unusedVariables false
def MapV (P : Program) (k e : TypeId) (w : World) (b n : Nat) (f : Value → Option Int) : Prop :=
 ∃ D : DataW Unit, w.ownsMap P k (plainElem P e) b n D ∧ ∀ v l, keyOf P k v = some l → Maps.has D l = (f v).isSome ∧ D.atKey l (.lit (.int .i64 0)) = .lit (.int .i64 ((f v).getD 0))
open Classical in
noncomputable def putV (f : Value → Option Int) (v : Value) (x : Int) : Value → Option Int := fun u => if u = v then some x else f u
theorem zIP (f : Value → Option Int) (v : Value) (x : Int) : putV f v x v = some x := by simp [putV]
theorem zFA (f : Value → Option Int) {v u : Value} (x : Int) (h : u ≠ v) : putV f v x u = f u := by simp [putV, h]
section
variable {P : Program} {k e t : TypeId} {w : World} {b n : Nat} {f : Value → Option Int}
theorem zM8 (w : World) (P : Program) (k e : TypeId) : MapV P k e (w.alloc (.map #[] 0)) w.heap.size 0 (fun _ => none) :=
 ⟨.map [], World.ownsMap_made w P k _, fun v l _ => ⟨rfl, rfl⟩⟩
theorem MapV.lt (h : MapV P k e w b n f) : b < w.heap.size := by obtain ⟨D, h, _⟩ := h; exact h.lt
theorem MapV.kept {w' : World} {row : Option Nat} (h : MapV P k e w b n f) (hg : w.grownBy w' row) (hne : some b ≠ row) : MapV P k e w' b n f := by
 obtain ⟨D, h, a⟩ := h; exact ⟨D, h.kept hg hne, a⟩
theorem MapV.alloc (h : MapV P k e w b n f) (o : Obj) : MapV P k e (w.alloc o) b n f := by obtain ⟨D, h, a⟩ := h; exact ⟨D, h.alloc o, a⟩
theorem MapV.drewN (h : MapV P k e w b n f) (q : Nat) : MapV P k e (w.drewN q) b n f := by
 obtain ⟨D, ⟨c, a, d, r⟩, g⟩ := h; exact ⟨D, ⟨c, a, d, r⟩, g⟩
theorem MapV.block {w' : World} (h : MapV P k e w b n f) (hb : w'.heap[b]? = w.heap[b]?) : MapV P k e w' b n f := by
 obtain ⟨D, ⟨c, a, d, r⟩, g⟩ := h; exact ⟨D, ⟨c, a, by rw [hb]; exact d, r⟩, g⟩
theorem MapV.below {w' : World} {m : Nat} (h : MapV P k e w b n f) (hB : Below m w w') (hm : b < m) : MapV P k e w' b n f := h.block (hB.block b hm)
theorem MapV.mono {n' : Nat} (h : MapV P k e w b n f) (hn : n ≤ n') : MapV P k e w b n' f := by obtain ⟨D, h, a⟩ := h; exact ⟨D, h.mono hn, a⟩
theorem MapV.congr {g : Value → Option Int} (h : MapV P k e w b n f) (hfg : ∀ v l, keyOf P k v = some l → f v = g v) : MapV P k e w b n g := by
 obtain ⟨D, h, a⟩ := h;exact ⟨D, h, fun v l hl => by rw [← hfg v l hl]; exact a v l hl⟩
theorem MapV.look (h : MapV P k e w b n f) (K : Keyed P k) (ht : P.underlying t = some (.map k e)) (he : P.underlying e = some (.int .i64)) (hz : (zeroValue e).run P w = .ok (nI 0) w) {v : Value} {l : Lit} (hl : keyOf P k v = some l) :
    (Instr.lookup t (.map (some b)) v false).run P w = .ok (nI ((f v).getD 0)) w := by
 obtain ⟨D, h, g⟩ := h;obtain ⟨c, d, a, _⟩ := h.lookup_int K ht he hz hl;rw [(g v l hl).2] at a;simp only [DataW.lit.injEq, Lit.int.injEq, true_and] at a;rw [d, a]
theorem MapV.look_ok (h : MapV P k e w b n f) (K : Keyed P k) (ht : P.underlying t = some (.map k e)) (he : P.underlying e = some (.int .i64)) (hz : (zeroValue e).run P w = .ok (nI 0) w) {v : Value} {l : Lit} (hl : keyOf P k v = some l) :
    (Instr.lookup t (.map (some b)) v true).run P w = .ok (.tuple #[nI ((f v).getD 0), .bool (f v).isSome]) w := by
 obtain ⟨D, h, i⟩ := h;obtain ⟨x, ps, a, d⟩ := h.look_ok K ht hz (plainElem_int he (by decide)) hl;rw [(i v l hl).2] at d;obtain ⟨c, rfl, g, _⟩ := plainElem_int_inv he d;simp only [Prod.mk.injEq, DataW.lit.injEq, Lit.int.injEq, true_and] at g;rw [a, (i v l hl).1, g.1]
theorem MapV.put (h : MapV P k e w b n f) (K : Keyed P k) (ht : P.underlying t = some (.map k e)) (he : P.underlying e = some (.int .i64)) (hn : n < maxLen) {v : Value} {l : Lit} (hl : keyOf P k v = some l) {x : Int} (hx : (Lit.int .i64 x).wf = true) :
    ∃ a, (Instr.mapUpdate t (.map (some b)) v (nI x)).run P w = .ok () a ∧ MapV P k e a b (n + 1) (putV f v x) ∧ w.grownBy a (some b) := by
 obtain ⟨D, h, j⟩ := h;obtain ⟨a, c, i, o⟩ := h.update K ht hn hl (plainElem_int he hx);refine ⟨a, c, ⟨_, i, fun u l' hl' => ?_⟩, o⟩;by_cases g : u = v
 ·subst g;rw [hl] at hl';cases hl'
  rw [zIP, has_put_same h.isMap (K.key hl), atKey_put_same h.isMap (K.key hl)];exact ⟨rfl, rfl⟩
 ·have d : l' ≠ l := fun e => g (K.inj hl' (e ▸ hl));rw [zFA f x g, has_put_other d, atKey_put_other d];exact j u l' hl'
theorem MapV.wiped (h : MapV P k e w b n f) (ht : P.underlying t = some (.map k e)) (ty : TypeId) :
    ∃ w', (Builtin.clear_ #[t] ty #[.map (some b)]).run P w = .ok (.tuple #[]) w' ∧ MapV P k e w' b n (fun _ => none) ∧ w.grownBy w' (some b) := by
 obtain ⟨D, ⟨es, a, c, F, hs, rfl⟩, hf⟩ := h;refine ⟨ChangeMaps.setBlock w b (.map #[] a), ?_, ⟨.map [], ⟨#[], a, ChangeMaps.heap_setBlock_same c _, ⟨by simp, MapKept.stamped_empty a, by simp⟩, by simp, rfl⟩, fun v l _ => ⟨rfl, rfl⟩⟩, ⟨rfl, rfl, rfl, by simp [ChangeMaps.setBlock], fun i _ hi => ChangeMaps.heap_setBlock_other c _ (fun e => hi (by rw [e]))⟩⟩;simp [Builtin.clear_, run_underlying ht, MapKept.run_getObj_map c, MapKept.run_setObj_map _ c, Result.andThen, ChangeMaps.setBlock]
variable {ops : Array Oper} {rest : List Oper} {o : Oper} {a : Act} {Q : Exit → Act → World → Prop}
theorem zHo (hg : o.guard = none) (m : Operand) (t : TypeId) (hop : o.op = Op.call { callee := Callee.builtin Builtin.clear, args := #[m], argTypes := #[t] })
    (h : MapV P k e w b n f) (ht : P.underlying t = some (.map k e)) (hm : a.eval m = .map (some b))
    (hK : ∀ c, MapV P k e c b n (fun _ => none) → w.grownBy c (some b) → wpList P ops Q rest (a.put o.dst (.tuple #[])) c) :
    wpList P ops Q (o :: rest) a w := by
 refine wpList_plain hg fun K' hK' => ?_;obtain ⟨c, d, i, g⟩ := h.wiped ht o.type;unfold Oper.wp;simp [execOp, hop, resolve, invoke, builtin, hm, d, Result.andThen]
 exact hK' _ _ (hK c i g)
end
#print axioms MapV.look
#print axioms zHo
open Go.Maps (Keyed)
theorem any_mem {α : Type} {xs : Array α} {p : α → Bool} : xs.any p = true ↔ ∃ x, x ∈ xs ∧ p x = true := by
 rw [Array.any_eq_true']
def litOk (ops : Array Oper) (J : List Nat) (listed : Array Bool) : Bool :=
 listed.size == ops.size && J.all (fun j => decide (j < ops.size) && (match ops[j]? with | none => false | some o => o.after.all fun e => !Region.binds .any e || (listed.getD e.on false && !J.contains e.on))) && (List.range ops.size).all fun i => J.contains i || listed.getD i true || (match ops[i]? with
  | none => true
  | some o => J.all (fun j => o.after.any (fun e => e.on == j && Region.binds .any e)) || o.after.any (fun e => !J.contains e.on && Region.binds .any e && !listed.getD e.on false))
theorem zM9 {ops : Array Oper} {J : List Nat} {listed0 listed : Array Bool} (hL : litOk ops J listed0 = true) (hs : listed.size = listed0.size) (ho : ∀ i, J.contains i = false → listed.getD i true = listed0.getD i true)
    {j0 : Nat} (hj : j0 ∈ J) (hj0 : listed.getD j0 false = false) {i : Nat} (hi : i ∈ Region.ready .any ops listed) : i ∈ J ∧ listed.getD i true = false := by
 simp only [litOk, Bool.and_eq_true, beq_iff_eq, List.all_eq_true, List.mem_range] at hL;obtain ⟨⟨h1, h2⟩, q⟩ := hL;obtain ⟨m, o, b, n⟩ := mem_ready.1 hi;have j : i < ops.size := by
  rcases Nat.lt_or_ge i ops.size with h | h
  ·exact h
  ·rw [Array.getElem?_eq_none h] at b; cases b
 have f : ∀ k, J.contains k = false → listed.getD k false = listed0.getD k false := fun k hk => by
  have := ho k hk;rcases Nat.lt_or_ge k listed.size with h | h
  ·have d : k < listed0.size := by omega
   simpa [h, d] using this
  ·have d : listed0.size ≤ k := by omega
   simp [Array.getElem?_eq_none h, Array.getElem?_eq_none d]
 by_cases p : J.contains i = true
 ·exact ⟨by simpa using p, m⟩
 ·have c : J.contains i = false := by simpa using p
  have a := q i j;rw [c, b, ← ho i c, m] at a;simp only [Bool.false_or, Bool.or_eq_true, List.all_eq_true, any_mem] at a;rcases a with a | ⟨e, g, a⟩
  ·obtain ⟨e, g, l⟩ := a j0 hj;simp only [Bool.and_eq_true, beq_iff_eq] at l;have := n e g l.2;rw [l.1, hj0] at this;cases this
  ·simp only [Bool.and_eq_true, Bool.not_eq_true'] at a;have := n e g a.1.2;rw [f e.on a.1.1, a.2] at this;cases this
structure Ins (P : Program) (ops : Array Oper) (a : Act) (k e : TypeId) (b : Nat) (key : Nat → Value) (val : Nat → Int) (j : Nat) : Prop where
 ins : ∃ o t m x v, ops[j]? = some o ∧ o.dst = none ∧ o.guard = none ∧ o.op = Op.insert t m x v ∧ P.underlying t = some (.map k e) ∧ a.eval m = .map (some b) ∧ a.eval x = key j ∧ a.eval v = .int .i64 (val j)
 lit : ∃ l, keyOf P k (key j) = some l
 wf : (Lit.int .i64 (val j)).wf = true
theorem zHX {P : Program} {ops : Array Oper} {Q : Exit → Act → World → Prop} {J : List Nat} {listed0 listed1 : Array Bool} {a : Act} {k e : TypeId} {b : Nat} {key : Nat → Value} {val : Nat → Int}
    (hL : litOk ops J listed0 = true) (I : J.Nodup) (hs1 : listed1.size = listed0.size) (h1' : ((List.range listed0.size).all fun i => listed1.getD i true == (J.contains i || listed0.getD i true)) = true)
    (hI : ∀ j ∈ J, Ins P ops a k e b key val j) (K : Keyed P k) (he : P.underlying e = some (.int .i64)) (hinj : ∀ i ∈ J, ∀ j ∈ J, key i = key j → i = j) {W : World} {f0 : Value → Option Int} {n0 fuel : Nat} (hn0 : n0 + J.length < maxLen)
    (hend : ∀ B n f, MapV P k e B b n f → n ≤ n0 + J.length → (∀ j ∈ J, f (key j) = some (val j)) → (∀ v, (∀ j ∈ J, v ≠ key j) → f v = f0 v) → W.grownBy B (some b) → wpAny P .any ops Q fuel listed1 a B) :
    ∀ (r : Nat) (c : Array Bool) (w : World) (n : Nat) (f : Value → Option Int), c.size = listed0.size → (∀ i, J.contains i = false → c.getD i true = listed0.getD i true) → (J.filter fun j => !c.getD j true).length = r →
     MapV P k e w b n f → n + r ≤ n0 + J.length → (∀ j ∈ J, c.getD j true = true → f (key j) = some (val j)) → (∀ v, (∀ j ∈ J, v ≠ key j) → f v = f0 v) → W.grownBy w (some b) → wpAny P .any ops Q (fuel + r) c a w := by
 intro r;induction r with
 | zero =>
  intro c w n f S M G X hn Y y hg;have q : ∀ j ∈ J, c.getD j true = true := fun j s => by
   by_cases h : c.getD j true = true
   ·exact h
   ·have : j ∈ J.filter fun j => !c.getD j true := List.mem_filter.2 ⟨s, by simpa using h⟩;rw [List.length_eq_zero_iff.1 G] at this;cases this
  have z : c = listed1 := by
   refine Array.ext (by rw [S, hs1]) fun i hi1 hi2 => ?_;have A : listed1.getD i true = (J.contains i || listed0.getD i true) := by
    have := List.all_eq_true.1 h1' i (List.mem_range.2 (by omega));exact beq_iff_eq.1 this
   by_cases I : J.contains i = true
   ·have := q i (by simpa using I);rw [I] at A;simp only [Bool.true_or] at A;simp [hi1] at this
    simp [hi2] at A
    rw [this, A]
   ·have D : J.contains i = false := by simpa using I
    have := M i D;rw [D, Bool.false_or, ← this] at A;simpa [hi1, hi2] using A.symm
  rw [z];exact hend w n f X (by omega) (fun j s => Y j s (q j s)) y hg
 | succ r ih =>
  intro c w n f S M G X hn Y y hg;have g := hL;simp only [litOk, Bool.and_eq_true, beq_iff_eq, List.all_eq_true, decide_eq_true_eq] at g;obtain ⟨p, eA⟩ : ∃ p, p ∈ J.filter fun j => !c.getD j true := by
   cases h : J.filter fun j => !c.getD j true with
   | nil => rw [h] at G; simp at G
   | cons x xs => exact ⟨x, by simp⟩
  obtain ⟨s, E⟩ := List.mem_filter.1 eA;have F : p < c.size := by have := (g.1.2 p s).1; omega
  have O : c.getD p false = false := by simpa [F] using E
  refine ⟨fun h0 => ?_, fun i hi => ?_⟩
  ·-- p waits for nobody that has not come up: so something is ready only if it is; else all that it waits for .. : asked of the list
   exfalso
   have N : p ∈ Region.ready .any ops c := by
    have T := (g.1.2 p s).2;refine mem_ready.2 ⟨by simpa [F] using E, ?_⟩;cases L : ops[p]? with
    | none => rw [L] at T; cases T
    | some o =>
     rw [L] at T;refine ⟨o, rfl, fun e he hb => ?_⟩;have C := (Array.all_eq_true_iff_forall_mem.1 T) e he;rw [hb] at C;simp only [Bool.not_true, Bool.false_or, Bool.and_eq_true, Bool.not_eq_true'] at C;have := M e.on C.2;rcases Nat.lt_or_ge e.on c.size with h | h
     ·have U : e.on < listed0.size := by omega
      simp [h, U] at this C ⊢
      rw [this]; exact C.1
     ·have U : listed0.size ≤ e.on := by omega
      simp [Array.getElem?_eq_none U] at C
   rw [h0] at N;cases N
  ·obtain ⟨d, V⟩ := zM9 hL S M s O hi;obtain ⟨o, t, m, x, v, q1, q2, q3, q4, q5, q6, q7, q8⟩ := (hI i d).ins;obtain ⟨l, hl⟩ := (hI i d).lit;obtain ⟨B, R, dA, bA⟩ := X.put K q5 he (by omega) hl (hI i d).wf;have cA : i < c.size := by have := (g.1.2 i d).1; omega
   have Z : wpAny P .any ops Q (fuel + r) (c.setIfInBounds i true) a B := by
    refine ih (c.setIfInBounds i true) B (n + 1) _ (by simpa using S) (fun k hk => ?_) ?_ dA (by omega) (fun k hkJ hk => ?_) (fun u hu => ?_) ?_
    ·rw [getD_set_ne true (fun e => by subst e; simp [d] at hk), M k hk]
    ·have z : (J.filter fun j => !(c.setIfInBounds i true).getD j true) = (J.filter fun j => !c.getD j true).erase i := by
       rw [List.Nodup.erase_eq_filter (I.filter _), List.filter_filter];refine List.filter_congr fun k hk => ?_;by_cases H : k = i
       ·subst H; simp [cA]
       ·rw [getD_set_ne true (Ne.symm H)]; simp [H]
     rw [z, List.length_erase_of_mem (List.mem_filter.2 ⟨d, by rw [V]; rfl⟩), G]; rfl
    ·by_cases z : k = i
     ·subst z; exact zIP _ _ _
     ·rw [zFA _ _ (fun H => z (hinj k hkJ i d H))];rw [getD_set_ne true (Ne.symm z)] at hk;exact Y k hkJ hk
    ·rw [zFA _ _ (hu i d)]; exact y u hu
    ·exact hg.trans bA
   have hw : Region.wanted o (yielded ops a.tmps) = true := by unfold Region.wanted; rw [q3]
   unfold wpOp;simp only [q1, hw, if_true];refine .inl ?_;unfold Oper.wp;simp [execOp, q4, q6, q7, q8, R, Result.andThen, Oper.upon]
   rw [q2];exact Z
theorem zJL {J : List Nat} {listed : Array Bool} {C : Nat → Prop} (h : (J.all fun j => !listed.getD j true) = true) : ∀ j ∈ J, listed.getD j true = true → C j := fun j hj hl => by
 have := List.all_eq_true.1 h j hj;rw [hl] at this;cases this
theorem zL6 {P : Program} {ops : Array Oper} {Q : Exit → Act → World → Prop} {i : Nat} {o : Oper} {v : Value} {a : Act} {w w' : World} {K : Act → World → Prop} (hi : ops[i]? = some o) (hg : o.guard = none)
    (hr : (execOp a.eval o).run P w = .ok (.value v) w') (h : K (a.put o.dst v) w') : wpOp P ops Q i K a w := by
 have b : Region.wanted o (yielded ops a.tmps) = true := by unfold Region.wanted; rw [hg]
 unfold wpOp;simp only [hi, b, if_true];refine .inl ?_;unfold Oper.wp;rw [hr];exact h
theorem zJM : laidOutB Tryz.prog = true := by kernel_rfl
theorem turnRow : (177 : TypeId) < Tryz.prog.types.size := of_decide_eq_true (by kernel_rfl)
theorem turnWide : (match Tryz.prog.underlying 177 with | some (.array _ _) | some (.struct _) => true | _ => false) = true := by kernel_rfl
theorem turnLaw : WideMaps.KeyLaw Tryz.prog 177 := deep_law_laid zJM (m := 2) (by omega) turnRow (by kernel_rfl) turnWide
theorem zIQ : Keyed Tryz.prog 177 := Keyed.of_law turnLaw
theorem zero2 (w : World) : (zeroValue 2).run Tryz.prog w = .ok (.int .i64 0) w := by kernel_rfl
abbrev tk (s e : Int) : Value := .agg #[.int .i64 s, .int .i64 e]
theorem key_two {P : Program} {t u : TypeId} {f0 f1 : Field} (ht : P.underlying t = some (.struct #[f0, f1])) (hu : P.underlying u = some (.int .i64)) (h0 : f0.type = u) (h1 : f1.type = u) (o0 : f0.offset = 0) (o1 : f1.offset = 1)
    (n0 : (f0.name != "_") = true) (n1 : (f1.name != "_") = true) (hc : P.cellsOf t = 2) (hcu : P.cellsOf u = 1) (hk : P.keyType t = true) (hsz : 0 < P.types.size) {s e : Int} (hs : (Lit.int .i64 s).wf = true) (he : (Lit.int .i64 e).wf = true) : ∃ l, keyOf P t (tk s e) = some l := by
 have c : (tk s e).formed P t = true := by simp [Value.formed, ht, hc]
 obtain ⟨m, a⟩ : ∃ m, P.types.size = m + 1 := ⟨P.types.size - 1, by omega⟩;have b : P.keyLits (P.types.size + 1) t (tk s e).cells.toList = some [.int .i64 s, .int .i64 e] := by
  rw [a];simp only [Program.keyLits, ht, Value.cells];simp [hc, n0, n1, h0, h1, o0, o1, hcu, hu, hs, he]
 refine ⟨.string (keyBytes [.int .i64 s, .int .i64 e]), ?_⟩;unfold keyOf;rw [ht];simp only [hk, c, b, Bool.and_self, if_true, Option.map_some]
theorem tk_key {s e : Int} (hs : (Lit.int .i64 s).wf = true) (he : (Lit.int .i64 e).wf = true) : ∃ l, keyOf Tryz.prog 177 (tk s e) = some l :=
 key_two Tryz.underlying177 Tryz.underlying2 rfl rfl rfl rfl (by decide) (by decide) (by kernel_rfl) (by kernel_rfl) (by kernel_rfl) (of_decide_eq_true (by kernel_rfl)) hs he
def zGb (s e : Int) : Option Int :=
 if s = 1 then (if e = 1 then some 1 else if e = 4 ∨ e = 5 then some 0 else none)
 else if s = 2 ∨ s = 3 then (if e = 1 then some s else if e = 2 then some 3 else if e = 3 then some 1 else if e = 4 ∨ e = 5 then some 0 else none) else none
def zJN : List Nat := [2, 4, 6, 8, 10, 12, 14, 16, 18, 20, 22, 24, 26]
def zFB : Nat → Value
 | 2 => tk 1 1
 | 4 => tk 1 4
 | 6 => tk 1 5
 | 8 => tk 2 1
 | 10 => tk 2 2
 | 12 => tk 2 3
 | 14 => tk 2 4
 | 16 => tk 2 5
 | 18 => tk 3 1
 | 20 => tk 3 2
 | 22 => tk 3 3
 | 24 => tk 3 4
 | 26 => tk 3 5
 | _ => .bool false
def zMA : Nat → Int
 | 2 => 1
 | 4 => 0
 | 6 => 0
 | 8 => 2
 | 10 => 3
 | 12 => 1
 | 14 => 0
 | 16 => 0
 | 18 => 3
 | 20 => 3
 | 22 => 1
 | 24 => 0
 | 26 => 0
 | _ => 0
def unTk : Value → Int × Int
 | .agg cs => (match cs.toList with | [.int _ a, .int _ b] => (a, b) | _ => (0, 0))
 | _ => (0, 0)
theorem turn_all {f : Value → Option Int} (h1 : ∀ j ∈ zJN, f (zFB j) = some (zMA j)) (h2 : ∀ v, (∀ j ∈ zJN, v ≠ zFB j) → f v = none) (s e : Int) : f (tk s e) = zGb s e := by
 by_cases r : s = 1 ∧ e = 1
 ·obtain ⟨rfl, rfl⟩ := r; exact h1 2 (by decide)
 by_cases y : s = 1 ∧ e = 4
 ·obtain ⟨rfl, rfl⟩ := y; exact h1 4 (by decide)
 by_cases p : s = 1 ∧ e = 5
 ·obtain ⟨rfl, rfl⟩ := p; exact h1 6 (by decide)
 by_cases q : s = 2 ∧ e = 1
 ·obtain ⟨rfl, rfl⟩ := q; exact h1 8 (by decide)
 by_cases g : s = 2 ∧ e = 2
 ·obtain ⟨rfl, rfl⟩ := g; exact h1 10 (by decide)
 by_cases b : s = 2 ∧ e = 3
 ·obtain ⟨rfl, rfl⟩ := b; exact h1 12 (by decide)
 by_cases m : s = 2 ∧ e = 4
 ·obtain ⟨rfl, rfl⟩ := m; exact h1 14 (by decide)
 by_cases l : s = 2 ∧ e = 5
 ·obtain ⟨rfl, rfl⟩ := l; exact h1 16 (by decide)
 by_cases n : s = 3 ∧ e = 1
 ·obtain ⟨rfl, rfl⟩ := n; exact h1 18 (by decide)
 by_cases k : s = 3 ∧ e = 2
 ·obtain ⟨rfl, rfl⟩ := k; exact h1 20 (by decide)
 by_cases c : s = 3 ∧ e = 3
 ·obtain ⟨rfl, rfl⟩ := c; exact h1 22 (by decide)
 by_cases d : s = 3 ∧ e = 4
 ·obtain ⟨rfl, rfl⟩ := d; exact h1 24 (by decide)
 by_cases i : s = 3 ∧ e = 5
 ·obtain ⟨rfl, rfl⟩ := i; exact h1 26 (by decide)
 rw [h2 _ (by
  intro j o;simp only [zJN, List.mem_cons, List.not_mem_nil, or_false] at o
  rcases o with rfl | rfl | rfl | rfl | rfl | rfl | rfl | rfl | rfl | rfl | rfl | rfl | rfl <;> simp only [zFB, tk, ne_eq, Value.agg.injEq, Array.mk.injEq, List.cons.injEq, Value.int.injEq, true_and, and_true] <;> assumption)]
 unfold zGb;by_cases a : s = 1
 ·rw [if_pos a];repeat' split
  all_goals first | rfl | omega
 ·rw [if_neg a];repeat' split
  all_goals first | rfl | omega
theorem zMB (w : World) :
    Calls Tryz.prog 148 #[] w fun e w' => ∃ b n f, e = .returned (.map (some b)) ∧ w.heap.size ≤ b ∧ MapV Tryz.prog 177 2 w' b n f ∧ (∀ s e, f (tk s e) = zGb s e) ∧ Below w.heap.size w w' := by
 go_enter Tryz.func148, Tryz.ntmps148;go_upto_region 1 with fail
 refine wp_region_any (by kernel_rfl) ?_;refine wpAny_take (i := 1) (v := tk 1 1) rfl (by kernel_rfl) (by kernel_rfl) (by kernel_rfl) (fun _ _ _ h => h) (.inl ⟨rfl, fun _ => by kernel_rfl⟩) ?_;refine wpAny_take (i := 3) (v := tk 1 4) rfl (by kernel_rfl) (by kernel_rfl) (by kernel_rfl) (fun _ _ _ h => h) (.inl ⟨rfl, fun _ => by kernel_rfl⟩) ?_;refine wpAny_take (i := 5) (v := tk 1 5) rfl (by kernel_rfl) (by kernel_rfl) (by kernel_rfl) (fun _ _ _ h => h) (.inl ⟨rfl, fun _ => by kernel_rfl⟩) ?_;refine wpAny_take (i := 7) (v := tk 2 1) rfl (by kernel_rfl) (by kernel_rfl) (by kernel_rfl) (fun _ _ _ h => h) (.inl ⟨rfl, fun _ => by kernel_rfl⟩) ?_;refine wpAny_take (i := 9) (v := tk 2 2) rfl (by kernel_rfl) (by kernel_rfl) (by kernel_rfl) (fun _ _ _ h => h) (.inl ⟨rfl, fun _ => by kernel_rfl⟩) ?_;refine wpAny_take (i := 11) (v := tk 2 3) rfl (by kernel_rfl) (by kernel_rfl) (by kernel_rfl) (fun _ _ _ h => h) (.inl ⟨rfl, fun _ => by kernel_rfl⟩) ?_;refine wpAny_take (i := 13) (v := tk 2 4) rfl (by kernel_rfl) (by kernel_rfl) (by kernel_rfl) (fun _ _ _ h => h) (.inl ⟨rfl, fun _ => by kernel_rfl⟩) ?_;refine wpAny_take (i := 15) (v := tk 2 5) rfl (by kernel_rfl) (by kernel_rfl) (by kernel_rfl) (fun _ _ _ h => h) (.inl ⟨rfl, fun _ => by kernel_rfl⟩) ?_;refine wpAny_take (i := 17) (v := tk 3 1) rfl (by kernel_rfl) (by kernel_rfl) (by kernel_rfl) (fun _ _ _ h => h) (.inl ⟨rfl, fun _ => by kernel_rfl⟩) ?_;refine wpAny_take (i := 19) (v := tk 3 2) rfl (by kernel_rfl) (by kernel_rfl) (by kernel_rfl) (fun _ _ _ h => h) (.inl ⟨rfl, fun _ => by kernel_rfl⟩) ?_;refine wpAny_take (i := 21) (v := tk 3 3) rfl (by kernel_rfl) (by kernel_rfl) (by kernel_rfl) (fun _ _ _ h => h) (.inl ⟨rfl, fun _ => by kernel_rfl⟩) ?_;refine wpAny_take (i := 23) (v := tk 3 4) rfl (by kernel_rfl) (by kernel_rfl) (by kernel_rfl) (fun _ _ _ h => h) (.inl ⟨rfl, fun _ => by kernel_rfl⟩) ?_;refine wpAny_take (i := 25) (v := tk 3 5) rfl (by kernel_rfl) (by kernel_rfl) (by kernel_rfl) (fun _ _ _ h => h) (.inl ⟨rfl, fun _ => by kernel_rfl⟩) ?_;refine wpAny_all (rs := [0]) (by kernel_rfl) (by simp) fun i c => ?_;obtain rfl : i = 0 := by simpa using c
 refine zL6 rfl rfl (v := .map (some w.heap.size)) (w' := w.drew.alloc (.map #[] 0)) rfl ?_;refine zHX (J := zJN) (listed1 := #[true, true, true, true, true, true, true, true, true, true, true, true, true, true, true, true, true, true, true, true, true, true, true, true, true, true, true, false, false]) (key := zFB) (val := zMA) (k := 177) (e := 2) (b := w.heap.size) (W := w.drew.alloc (.map #[] 0)) (f0 := fun _ => none) (n0 := 0) (fuel := 2)
  (by kernel_rfl) (by decide) (by kernel_rfl) (by kernel_rfl) ?ins zIQ Tryz.underlying2 ?inj (by decide) ?fin 13 _ _ 0 (fun _ => none) rfl (fun _ _ => rfl) (by kernel_rfl) (zM8 w.drew _ _ _) (by decide) ?none (fun _ _ => rfl) ⟨rfl, rfl, rfl, Nat.le_refl _, fun _ _ _ => rfl⟩
 case ins =>
  intro j a;simp only [zJN, List.mem_cons, List.not_mem_nil, or_false] at a;rcases a with rfl | rfl | rfl | rfl | rfl | rfl | rfl | rfl | rfl | rfl | rfl | rfl | rfl
  all_goals exact ⟨⟨_, _, _, _, _, rfl, rfl, rfl, rfl, Tryz.underlying174, rfl, rfl, rfl⟩, tk_key (by decide) (by decide), by decide⟩
 case inj =>
  intro i c j a h;exact (show ∀ i ∈ zJN, ∀ j ∈ zJN, unTk (zFB i) = unTk (zFB j) → i = j by decide) i c j a (congrArg unTk h)
 case none =>
  exact zJL (by kernel_rfl)
 case fin =>
  intro w1 n f l hn m g d;refine wpAny_take (i := 27) (v := .map (some w.heap.size)) rfl (by kernel_rfl) (by kernel_rfl) (by kernel_rfl) (fun _ _ _ h => h) (.inl ⟨rfl, fun _ => by kernel_rfl⟩) ?_;refine wpAny_take (i := 28) (v := .map (some w.heap.size)) rfl (by kernel_rfl) (by kernel_rfl) (by kernel_rfl) (fun _ _ _ h => h) (.inl ⟨rfl, fun _ => by kernel_rfl⟩) ?_;refine wpAny_done (by kernel_rfl) ?_ 0;go_wp2;go_ret
  exact ⟨_, n, f, rfl, Nat.le_refl _, l, turn_all m g, ((Below.refl w.heap.size w).drew.alloc (Nat.le_refl _) _).grown d (by simp) (fun j a => by cases a; exact Nat.le_refl _)⟩
def nextV (s e : Int) : Value := .tuple #[.int .i64 ((zGb s e).getD s), .bool (zGb s e).isSome]
theorem zEl (s e : Int) (w : World) (hs : (Lit.int .i64 s).wf = true) (he : (Lit.int .i64 e).wf = true) :
    Calls Tryz.prog 126 #[nI s, nI e] w fun x w' => x = .returned (nextV s e) ∧ Bl w w' := by
 obtain ⟨l, d⟩ := tk_key hs he;unfold nextV;obtain ⟨o, c⟩ : ∃ o, zGb s e = o := ⟨_, rfl⟩;rw [c];cases o
 all_goals
  simp only [Option.getD_none, Option.isSome_none, Option.getD_some, Option.isSome_some];go_enter Tryz.func126, Tryz.ntmps126;go_wp2_with fail
  refine (zMB _).mono ?_;rintro _ w1 ⟨b, n, f, rfl, hb, g, i, B⟩;have a := g.look_ok zIQ Tryz.underlying174 Tryz.underlying2 (zero2 _) d;rw [i, c] at a;simp only [Option.getD_none, Option.isSome_none, Option.getD_some, Option.isSome_some] at a;go_wp2;go_ret2
  exact ⟨rfl, B⟩
def zEd : Array Value := #[.bool false, .bool false, .bool false, .bool true, .bool false, .bool false, .bool true, .bool true, .bool false, .bool true, .bool true, .bool true]
def HoldT (w : World) : Prop := ∃ t fz, w.heap[0]? = some (.cells zEd t fz)
theorem HoldT.lt {w : World} (h : HoldT w) : 0 < w.heap.size := by obtain ⟨t, fz, h⟩ := h; exact (ltH h)
theorem HoldT.below {w w' : World} {m : Nat} (h : HoldT w) (hB : Below m w w') (hm : 0 < m) : HoldT w' := by
 obtain ⟨t, a, h⟩ := h;exact ⟨t, a, (hB.block 0 hm).trans h⟩
theorem HoldT.goes {w w' : World} (h : HoldT w) (hB : Bl w w') : HoldT w' := h.below hB h.lt
theorem HoldT.grown {w w' : World} {b : Nat} (h : HoldT w) (hg : w.grownBy w' (some b)) (hb : 0 < b) : HoldT w' := by
 have c := h.lt;obtain ⟨t, a, h⟩ := h;exact ⟨t, a, (hg.block 0 c (by simp; omega)).trans h⟩
theorem HoldT.drewN {w : World} (h : HoldT w) (q : Nat) : HoldT (w.drewN q) := h
theorem HoldT.cells {w : World} (h : HoldT w) :
    w.cell? ⟨0, 0, none⟩ = some (.bool false) ∧ w.cell? ⟨0, 1, none⟩ = some (.bool false) ∧ w.cell? ⟨0, 2, none⟩ = some (.bool false) ∧
    w.cell? ⟨0, 3, none⟩ = some (.bool true) ∧ w.cell? ⟨0, 4, none⟩ = some (.bool false) ∧ w.cell? ⟨0, 5, none⟩ = some (.bool false) ∧
    w.cell? ⟨0, 6, none⟩ = some (.bool true) ∧ w.cell? ⟨0, 7, none⟩ = some (.bool true) ∧ w.cell? ⟨0, 8, none⟩ = some (.bool false) ∧
    w.cell? ⟨0, 9, none⟩ = some (.bool true) ∧ w.cell? ⟨0, 10, none⟩ = some (.bool true) ∧ w.cell? ⟨0, 11, none⟩ = some (.bool true) := by
 obtain ⟨t, fz, h⟩ := h;refine ⟨?_, ?_, ?_, ?_, ?_, ?_, ?_, ?_, ?_, ?_, ?_, ?_⟩ <;> (rw [cell_of_row w 0 _ _ _ _ h]; rfl)
abbrev hk (a b c : Bool) : Value := .agg #[.bool a, .bool b, .bool c]
def readI (s : Int) : Int := if s = 0 then 1 else 0
def zMC (s : Int) : Int := if s < 2 then 2 else 0
def zCl (s : Int) (wr : Bool) : Int := if zAP s 0 3 then (if wr then zMC s else readI s) else -1
theorem zIR {s : Int} (h : zAP s 0 3 = true) : s = 0 ∨ s = 1 ∨ s = 2 ∨ s = 3 := by simp [zAP] at h; omega
theorem zHp (s : Int) (w : World) (h : HoldT w) (hs : zAP s 0 3 = true) :
    Calls Tryz.prog 151 #[nI s] w fun x w' => x = .returned (nI (readI s)) ∧ w' = w := by
 obtain ⟨c0, c1, c2, c3, c4, c5, c6, c7, c8, c9, a, b⟩ := h.cells;rcases zIR hs with rfl | rfl | rfl | rfl
 all_goals
  clear hs;go_enter Tryz.func151, Tryz.ntmps151;go_wp2;go_ret
  exact ⟨rfl, rfl⟩
theorem zG0 (s : Int) (w : World) (h : HoldT w) (hs : zAP s 0 3 = true) :
    Calls Tryz.prog 150 #[nI s] w fun x w' => x = .returned (nI (zMC s)) ∧ w' = w := by
 obtain ⟨c0, c1, c2, c3, c4, c5, c6, c7, c8, c9, a, b⟩ := h.cells;rcases zIR hs with rfl | rfl | rfl | rfl
 all_goals
  clear hs;go_enter Tryz.func150, Tryz.ntmps150;go_wp2;go_ret
  exact ⟨rfl, rfl⟩
theorem zET (s : Int) (w : World) :
    Calls Tryz.prog 149 #[nI s] w fun x w' => x = .returned (.bool (zAP s 0 3)) ∧ w' = w := by
 go_enter Tryz.func149, Tryz.ntmps149;go_wp2_with fail
 refine (zBd _ _ _ _).mono ?_;rintro _ w1 ⟨rfl, rfl⟩;go_wp2;go_ret
 exact ⟨rfl, rfl⟩
theorem zIS (s : Int) (wr : Bool) (w : World) (h : HoldT w) :
    Calls Tryz.prog 130 #[nI s, .bool wr] w fun x w' => x = .returned (nI (zCl s wr)) ∧ w' = w := by
 by_cases a : zAP s 0 3 = true
 ·cases wr
  ·go_enter Tryz.func130, Tryz.ntmps130;go_wp2_with fail
   refine (zET _ _).mono ?_;rintro _ c ⟨rfl, rfl⟩;rw [a];go_wp2_with fail
   refine (zHp _ _ h a).mono ?_;rintro _ c ⟨rfl, rfl⟩;go_wp2;go_ret
   exact ⟨by simp [zCl, a], rfl⟩
  ·go_enter Tryz.func130, Tryz.ntmps130;go_wp2_with fail
   refine (zET _ _).mono ?_;rintro _ c ⟨rfl, rfl⟩;rw [a];go_wp2_with fail
   refine (zG0 _ _ h a).mono ?_;rintro _ c ⟨rfl, rfl⟩;go_wp2;go_ret
   exact ⟨by simp [zCl, a], rfl⟩
 ·have b : zAP s 0 3 = false := by simpa using a
  go_enter Tryz.func130, Tryz.ntmps130;go_wp2_with fail
  refine (zET _ _).mono ?_;rintro _ c ⟨rfl, rfl⟩;rw [b];go_wp2;go_ret
  exact ⟨by simp [zCl, b], rfl⟩
theorem zFN (s : Int) (wr : Bool) (w : World) :
    Calls Tryz.prog 84 #[nI s, .bool wr] w fun x w' => x = .returned (nI (zCl s wr)) ∧ w' = w := by
 by_cases b : zAP s 0 3 = true
 ·rcases zIR b with rfl | rfl | rfl | rfl
  all_goals
   cases wr
   all_goals
    go_enter Tryz.func84, Tryz.ntmps84;go_wp2_with fail
    refine (zAZ _ _ _ _).mono ?_;rintro _ c ⟨rfl, rfl⟩;rw [b];go_wp2;go_ret
    exact ⟨rfl, rfl⟩
 ·have a : zAP s 0 3 = false := by simpa using b
  go_enter Tryz.func84, Tryz.ntmps84;go_wp2_with fail
  refine (zAZ _ _ _ _).mono ?_;rintro _ c ⟨rfl, rfl⟩;rw [a];go_wp2;go_ret
  exact ⟨by simp [zCl, a], rfl⟩
end Go.Proofs.YtmdhblhdfcocjaaGreatDoor
