import Derived.Test.YtoihjejenjcokaaGreatDoorP00Box
import Derived.Maps.OwnSet
import Derived.DeepKeys4
import Derived.WideKeyEntry
import Derived.Orders
import Derived.Maps.AppendAt
import Derived.Below
import Derived.Deep.QuietTactic
import Derived.Test.YtoihjejenjcokaaGreatDoorProg
import Derived.Test.YtoihjejenjcokaaGreatDoorP02Nums
import Derived.WalkKit
import Derived.RowKit
import Derived.KernelRfl
import Derived.Deep.Cut
import Derived.Deep.CutBlock
import Derived.OwnWalk
import Derived.Test.YtoihjejenjcokaaGreatDoorP03OpensBase
import Derived.BigRegion
import Derived.BigQuiet
namespace Go.Proofs.YtoihjejenjcokaaGreatDoor
set_option maxHeartbeats 2000000
set_option maxRecDepth 100000
open Go.ChangeShapes Go.WideShapes Go.RowKit
open Go.Maps (Keyed has_put_same has_put_other atKey_put_same atKey_put_other)
set_option linter.unusedVariables false
def MapV (P : Program) (k e : TypeId) (w : World) (b n : Nat) (f : Value → Option Int) : Prop :=
 ∃ D : DataW Unit, w.ownsMap P k (plainElem P e) b n D ∧ ∀ v l, keyOf P k v = some l → Maps.has D l = (f v).isSome ∧ D.atKey l (.lit (.int .i64 0)) = .lit (.int .i64 ((f v).getD 0))
open Classical in
noncomputable def putV (f : Value → Option Int) (v : Value) (x : Int) : Value → Option Int := fun u => if u = v then some x else f u
theorem zIO (f : Value → Option Int) (v : Value) (x : Int) : putV f v x v = some x := by simp [putV]
theorem zFA (f : Value → Option Int) {v u : Value} (x : Int) (h : u ≠ v) : putV f v x u = f u := by simp [putV, h]
section
variable {P : Program} {k e t : TypeId} {w : World} {b n : Nat} {f : Value → Option Int}
theorem zM8 (w : World) (P : Program) (k e : TypeId) : MapV P k e (w.alloc (.map #[] 0)) w.heap.size 0 (fun _ => none) :=
 ⟨.map [], World.ownsMap_made w P k _, fun v l _ => ⟨rfl, rfl⟩⟩
theorem MapV.lt (h : MapV P k e w b n f) : b < w.heap.size := by obtain ⟨D, h, _⟩ := h; exact h.lt
theorem MapV.kept {w' : World} {row : Option Nat} (h : MapV P k e w b n f) (hg : w.grownBy w' row) (hne : some b ≠ row) : MapV P k e w' b n f := by
 obtain ⟨D, h, hf⟩ := h; exact ⟨D, h.kept hg hne, hf⟩
theorem MapV.alloc (h : MapV P k e w b n f) (o : Obj) : MapV P k e (w.alloc o) b n f := by obtain ⟨D, h, hf⟩ := h; exact ⟨D, h.alloc o, hf⟩
theorem MapV.drewN (h : MapV P k e w b n f) (q : Nat) : MapV P k e (w.drewN q) b n f := by
 obtain ⟨D, ⟨es, clock, hb, r⟩, hf⟩ := h; exact ⟨D, ⟨es, clock, hb, r⟩, hf⟩
theorem MapV.block {w' : World} (h : MapV P k e w b n f) (hb : w'.heap[b]? = w.heap[b]?) : MapV P k e w' b n f := by
 obtain ⟨D, ⟨es, clock, h0, r⟩, hf⟩ := h; exact ⟨D, ⟨es, clock, by rw [hb]; exact h0, r⟩, hf⟩
theorem MapV.below {w' : World} {m : Nat} (h : MapV P k e w b n f) (hB : Below m w w') (hm : b < m) : MapV P k e w' b n f := h.block (hB.block b hm)
theorem MapV.mono {n' : Nat} (h : MapV P k e w b n f) (hn : n ≤ n') : MapV P k e w b n' f := by obtain ⟨D, h, hf⟩ := h; exact ⟨D, h.mono hn, hf⟩
theorem MapV.congr {g : Value → Option Int} (h : MapV P k e w b n f) (hfg : ∀ v l, keyOf P k v = some l → f v = g v) : MapV P k e w b n g := by
 obtain ⟨D, h, hf⟩ := h
 exact ⟨D, h, fun v l hl => by rw [← hfg v l hl]; exact hf v l hl⟩
theorem MapV.look (h : MapV P k e w b n f) (K : Keyed P k) (ht : P.underlying t = some (.map k e)) (he : P.underlying e = some (.int .i64)) (hz : (zeroValue e).run P w = .ok (.int .i64 0) w) {v : Value} {l : Lit} (hl : keyOf P k v = some l) :
    (Instr.lookup t (.map (some b)) v false).run P w = .ok (.int .i64 ((f v).getD 0)) w := by
 obtain ⟨D, h, hf⟩ := h
 obtain ⟨c, hrun, hat, _⟩ := h.lookup_int K ht he hz hl
 rw [(hf v l hl).2] at hat
 simp only [DataW.lit.injEq, Lit.int.injEq, true_and] at hat
 rw [hrun, hat]
theorem MapV.look_ok (h : MapV P k e w b n f) (K : Keyed P k) (ht : P.underlying t = some (.map k e)) (he : P.underlying e = some (.int .i64)) (hz : (zeroValue e).run P w = .ok (.int .i64 0) w) {v : Value} {l : Lit} (hl : keyOf P k v = some l) :
    (Instr.lookup t (.map (some b)) v true).run P w = .ok (.tuple #[.int .i64 ((f v).getD 0), .bool (f v).isSome]) w := by
 obtain ⟨D, h, hf⟩ := h
 obtain ⟨x, ps, hrun, hx⟩ := h.look_ok K ht hz (plainElem_int he (by decide)) hl
 rw [(hf v l hl).2] at hx
 obtain ⟨c, rfl, hc, _⟩ := plainElem_int_inv he hx
 simp only [Prod.mk.injEq, DataW.lit.injEq, Lit.int.injEq, true_and] at hc
 rw [hrun, (hf v l hl).1, hc.1]
theorem MapV.put (h : MapV P k e w b n f) (K : Keyed P k) (ht : P.underlying t = some (.map k e)) (he : P.underlying e = some (.int .i64)) (hn : n < maxLen) {v : Value} {l : Lit} (hl : keyOf P k v = some l) {x : Int} (hx : (Lit.int .i64 x).wf = true) :
    ∃ w', (Instr.mapUpdate t (.map (some b)) v (.int .i64 x)).run P w = .ok () w' ∧ MapV P k e w' b (n + 1) (putV f v x) ∧ w.grownBy w' (some b) := by
 obtain ⟨D, h, hf⟩ := h
 obtain ⟨w', hrun, h1, h2⟩ := h.update K ht hn hl (plainElem_int he hx)
 refine ⟨w', hrun, ⟨_, h1, fun u l' hl' => ?_⟩, h2⟩
 by_cases hu : u = v
 ·subst hu
  rw [hl] at hl'
  cases hl'
  rw [zIO, has_put_same h.isMap (K.key hl), atKey_put_same h.isMap (K.key hl)]
  exact ⟨rfl, rfl⟩
 ·have hne : l' ≠ l := fun e => hu (K.inj hl' (e ▸ hl))
  rw [zFA f x hu, has_put_other hne, atKey_put_other hne]
  exact hf u l' hl'
theorem MapV.wiped (h : MapV P k e w b n f) (ht : P.underlying t = some (.map k e)) (ty : TypeId) :
    ∃ w', (Builtin.clear_ #[t] ty #[.map (some b)]).run P w = .ok (.tuple #[]) w' ∧ MapV P k e w' b n (fun _ => none) ∧ w.grownBy w' (some b) := by
 obtain ⟨D, ⟨es, clock, hb, F, hs, rfl⟩, hf⟩ := h
 refine ⟨ChangeMaps.setBlock w b (.map #[] clock), ?_, ⟨.map [], ⟨#[], clock, ChangeMaps.heap_setBlock_same hb _, ⟨by simp, MapKept.stamped_empty clock, by simp⟩, by simp, rfl⟩, fun v l _ => ⟨rfl, rfl⟩⟩, ⟨rfl, rfl, rfl, by simp [ChangeMaps.setBlock], fun i _ hi => ChangeMaps.heap_setBlock_other hb _ (fun e => hi (by rw [e]))⟩⟩
 simp [Builtin.clear_, run_underlying ht, MapKept.run_getObj_map hb, MapKept.run_setObj_map _ hb, Result.andThen, ChangeMaps.setBlock]
variable {ops : Array Oper} {rest : List Oper} {o : Oper} {a : Act} {Q : Exit → Act → World → Prop}
theorem zHo (hg : o.guard = none) (m : Operand) (t : TypeId) (hop : o.op = Op.call { callee := Callee.builtin Builtin.clear, args := #[m], argTypes := #[t] })
    (h : MapV P k e w b n f) (ht : P.underlying t = some (.map k e)) (hm : a.eval m = .map (some b))
    (hK : ∀ w', MapV P k e w' b n (fun _ => none) → w.grownBy w' (some b) → wpList P ops Q rest (a.put o.dst (.tuple #[])) w') :
    wpList P ops Q (o :: rest) a w := by
 refine wpList_plain hg fun K' hK' => ?_
 obtain ⟨w', hrun, r1, r2⟩ := h.wiped ht o.type
 unfold Oper.wp
 simp [execOp, hop, resolve, invoke, builtin, hm, hrun, Result.andThen]
 exact hK' _ _ (hK w' r1 r2)
end
#print axioms MapV.look
#print axioms zHo
open Go.Maps (Keyed)
theorem any_mem {α : Type} {xs : Array α} {p : α → Bool} : xs.any p = true ↔ ∃ x, x ∈ xs ∧ p x = true := by
 rw [Array.any_eq_true']
def litOk (ops : Array Oper) (J : List Nat) (listed : Array Bool) : Bool :=
 listed.size == ops.size && J.all (fun j => decide (j < ops.size) && (match ops[j]? with | none => false | some o => o.after.all fun e => !Region.binds .any e || (listed.getD e.on false && !J.contains e.on))) && (List.range ops.size).all fun i => J.contains i || listed.getD i true || (match ops[i]? with
  | none => true
  | some o => J.all (fun j => o.after.any (fun e => e.on == j && Region.binds .any e)) || o.after.any (fun e => !J.contains e.on && Region.binds .any e && !listed.getD e.on false))
theorem zM9 {ops : Array Oper} {J : List Nat} {listed0 listed : Array Bool} (hL : litOk ops J listed0 = true) (hs : listed.size = listed0.size) (ho : ∀ i, J.contains i = false → listed.getD i true = listed0.getD i true)
    {j0 : Nat} (hj : j0 ∈ J) (hj0 : listed.getD j0 false = false) {i : Nat} (hi : i ∈ Region.ready .any ops listed) : i ∈ J ∧ listed.getD i true = false := by
 simp only [litOk, Bool.and_eq_true, beq_iff_eq, List.all_eq_true, List.mem_range] at hL
 obtain ⟨⟨h1, h2⟩, h3⟩ := hL
 obtain ⟨hn, o, hop, hd⟩ := mem_ready.1 hi
 have hlt : i < ops.size := by
  rcases Nat.lt_or_ge i ops.size with h | h
  ·exact h
  ·rw [Array.getElem?_eq_none h] at hop; cases hop
 have ho' : ∀ k, J.contains k = false → listed.getD k false = listed0.getD k false := fun k hk => by
  have := ho k hk
  rcases Nat.lt_or_ge k listed.size with h | h
  ·have h' : k < listed0.size := by omega
   simpa [h, h'] using this
  ·have h' : listed0.size ≤ k := by omega
   simp [Array.getElem?_eq_none h, Array.getElem?_eq_none h']
 by_cases hJ : J.contains i = true
 ·exact ⟨by simpa using hJ, hn⟩
 ·have hJ' : J.contains i = false := by simpa using hJ
  have h4 := h3 i hlt
  rw [hJ', hop, ← ho i hJ', hn] at h4
  simp only [Bool.false_or, Bool.or_eq_true, List.all_eq_true, any_mem] at h4
  rcases h4 with h4 | ⟨e, he, h4⟩
  ·obtain ⟨e, he, h5⟩ := h4 j0 hj
   simp only [Bool.and_eq_true, beq_iff_eq] at h5
   have := hd e he h5.2
   rw [h5.1, hj0] at this
   cases this
  ·simp only [Bool.and_eq_true, Bool.not_eq_true'] at h4
   have := hd e he h4.1.2
   rw [ho' e.on h4.1.1, h4.2] at this
   cases this
structure Ins (P : Program) (ops : Array Oper) (a : Act) (k e : TypeId) (b : Nat) (key : Nat → Value) (val : Nat → Int) (j : Nat) : Prop where
 ins : ∃ o t m x v, ops[j]? = some o ∧ o.dst = none ∧ o.guard = none ∧ o.op = Op.insert t m x v ∧ P.underlying t = some (.map k e) ∧ a.eval m = .map (some b) ∧ a.eval x = key j ∧ a.eval v = .int .i64 (val j)
 lit : ∃ l, keyOf P k (key j) = some l
 wf : (Lit.int .i64 (val j)).wf = true
theorem zHW {P : Program} {ops : Array Oper} {Q : Exit → Act → World → Prop} {J : List Nat} {listed0 listed1 : Array Bool} {a : Act} {k e : TypeId} {b : Nat} {key : Nat → Value} {val : Nat → Int}
    (hL : litOk ops J listed0 = true) (hJ : J.Nodup) (hs1 : listed1.size = listed0.size) (h1' : ((List.range listed0.size).all fun i => listed1.getD i true == (J.contains i || listed0.getD i true)) = true)
    (hI : ∀ j ∈ J, Ins P ops a k e b key val j) (K : Keyed P k) (he : P.underlying e = some (.int .i64)) (hinj : ∀ i ∈ J, ∀ j ∈ J, key i = key j → i = j) {W : World} {f0 : Value → Option Int} {n0 fuel : Nat} (hn0 : n0 + J.length < maxLen)
    (hend : ∀ w' n f, MapV P k e w' b n f → n ≤ n0 + J.length → (∀ j ∈ J, f (key j) = some (val j)) → (∀ v, (∀ j ∈ J, v ≠ key j) → f v = f0 v) → W.grownBy w' (some b) → wpAny P .any ops Q fuel listed1 a w') :
    ∀ (r : Nat) (listed : Array Bool) (w : World) (n : Nat) (f : Value → Option Int), listed.size = listed0.size → (∀ i, J.contains i = false → listed.getD i true = listed0.getD i true) → (J.filter fun j => !listed.getD j true).length = r →
     MapV P k e w b n f → n + r ≤ n0 + J.length → (∀ j ∈ J, listed.getD j true = true → f (key j) = some (val j)) → (∀ v, (∀ j ∈ J, v ≠ key j) → f v = f0 v) → W.grownBy w (some b) → wpAny P .any ops Q (fuel + r) listed a w := by
 intro r
 induction r with
 | zero =>
  intro listed w n f hs ho hr hm hn hf hf0 hg
  have hall : ∀ j ∈ J, listed.getD j true = true := fun j hj => by
   by_cases h : listed.getD j true = true
   ·exact h
   ·have : j ∈ J.filter fun j => !listed.getD j true := List.mem_filter.2 ⟨hj, by simpa using h⟩
    rw [List.length_eq_zero_iff.1 hr] at this
    cases this
  have e1 : listed = listed1 := by
   refine Array.ext (by rw [hs, hs1]) fun i hi1 hi2 => ?_
   have h2 : listed1.getD i true = (J.contains i || listed0.getD i true) := by
    have := List.all_eq_true.1 h1' i (List.mem_range.2 (by omega))
    exact beq_iff_eq.1 this
   by_cases hJ : J.contains i = true
   ·have := hall i (by simpa using hJ)
    rw [hJ] at h2
    simp only [Bool.true_or] at h2
    simp [hi1] at this
    simp [hi2] at h2
    rw [this, h2]
   ·have hJ' : J.contains i = false := by simpa using hJ
    have := ho i hJ'
    rw [hJ', Bool.false_or, ← this] at h2
    simpa [hi1, hi2] using h2.symm
  rw [e1]
  exact hend w n f hm (by omega) (fun j hj => hf j hj (hall j hj)) hf0 hg
 | succ r ih =>
  intro listed w n f hs ho hr hm hn hf hf0 hg
  have hL' := hL
  simp only [litOk, Bool.and_eq_true, beq_iff_eq, List.all_eq_true, decide_eq_true_eq] at hL'
  obtain ⟨j0, hj0⟩ : ∃ j0, j0 ∈ J.filter fun j => !listed.getD j true := by
   cases h : J.filter fun j => !listed.getD j true with
   | nil => rw [h] at hr; simp at hr
   | cons x xs => exact ⟨x, by simp⟩
  obtain ⟨hj, hjn⟩ := List.mem_filter.1 hj0
  have hjl : j0 < listed.size := by have := (hL'.1.2 j0 hj).1; omega
  have hjn' : listed.getD j0 false = false := by simpa [hjl] using hjn
  refine ⟨fun h0 => ?_, fun i hi => ?_⟩
  ·-- j0 waits for nobody that has not come up: so something is ready only if it is; else all that it waits for .. : asked of the list
   exfalso
   have hr0 : j0 ∈ Region.ready .any ops listed := by
    have h5 := (hL'.1.2 j0 hj).2
    refine mem_ready.2 ⟨by simpa [hjl] using hjn, ?_⟩
    cases hop : ops[j0]? with
    | none => rw [hop] at h5; cases h5
    | some o =>
     rw [hop] at h5
     refine ⟨o, rfl, fun e he hb => ?_⟩
     have h6 := (Array.all_eq_true_iff_forall_mem.1 h5) e he
     rw [hb] at h6
     simp only [Bool.not_true, Bool.false_or, Bool.and_eq_true, Bool.not_eq_true'] at h6
     have := ho e.on h6.2
     rcases Nat.lt_or_ge e.on listed.size with h | h
     ·have h' : e.on < listed0.size := by omega
      simp [h, h'] at this h6 ⊢
      rw [this]; exact h6.1
     ·have h' : listed0.size ≤ e.on := by omega
      simp [Array.getElem?_eq_none h'] at h6
   rw [h0] at hr0
   cases hr0
  ·obtain ⟨hiJ, hin⟩ := zM9 hL hs ho hj hjn' hi
   obtain ⟨o, t, m, x, v, q1, q2, q3, q4, q5, q6, q7, q8⟩ := (hI i hiJ).ins
   obtain ⟨l, hl⟩ := (hI i hiJ).lit
   obtain ⟨w', hrun, hm', hg'⟩ := hm.put K q5 he (by omega) hl (hI i hiJ).wf
   have hil : i < listed.size := by have := (hL'.1.2 i hiJ).1; omega
   have hgo : wpAny P .any ops Q (fuel + r) (listed.setIfInBounds i true) a w' := by
    refine ih (listed.setIfInBounds i true) w' (n + 1) _ (by simpa using hs) (fun k hk => ?_) ?_ hm' (by omega) (fun k hkJ hk => ?_) (fun u hu => ?_) ?_
    ·rw [getD_set_ne true (fun e => by subst e; simp [hiJ] at hk), ho k hk]
    ·have e1 : (J.filter fun j => !(listed.setIfInBounds i true).getD j true) = (J.filter fun j => !listed.getD j true).erase i := by
       rw [List.Nodup.erase_eq_filter (hJ.filter _), List.filter_filter]
       refine List.filter_congr fun k hk => ?_
       by_cases e2 : k = i
       ·subst e2; simp [hil]
       ·rw [getD_set_ne true (Ne.symm e2)]; simp [e2]
     rw [e1, List.length_erase_of_mem (List.mem_filter.2 ⟨hiJ, by rw [hin]; rfl⟩), hr]; rfl
    ·by_cases e1 : k = i
     ·subst e1; exact zIO _ _ _
     ·rw [zFA _ _ (fun e2 => e1 (hinj k hkJ i hiJ e2))]
      rw [getD_set_ne true (Ne.symm e1)] at hk
      exact hf k hkJ hk
    ·rw [zFA _ _ (hu i hiJ)]; exact hf0 u hu
    ·exact hg.trans hg'
   have hw : Region.wanted o (yielded ops a.tmps) = true := by unfold Region.wanted; rw [q3]
   unfold wpOp
   simp only [q1, hw, if_true]
   refine .inl ?_
   unfold Oper.wp
   simp [execOp, q4, q6, q7, q8, hrun, Result.andThen, Oper.upon]
   rw [q2]
   exact hgo
theorem zJL {J : List Nat} {listed : Array Bool} {C : Nat → Prop} (h : (J.all fun j => !listed.getD j true) = true) : ∀ j ∈ J, listed.getD j true = true → C j := fun j hj hl => by
 have := List.all_eq_true.1 h j hj
 rw [hl] at this
 cases this
theorem zL6 {P : Program} {ops : Array Oper} {Q : Exit → Act → World → Prop} {i : Nat} {o : Oper} {v : Value} {a : Act} {w w' : World} {K : Act → World → Prop} (hi : ops[i]? = some o) (hg : o.guard = none)
    (hr : (execOp a.eval o).run P w = .ok (.value v) w') (h : K (a.put o.dst v) w') : wpOp P ops Q i K a w := by
 have hw : Region.wanted o (yielded ops a.tmps) = true := by unfold Region.wanted; rw [hg]
 unfold wpOp
 simp only [hi, hw, if_true]
 refine .inl ?_
 unfold Oper.wp
 rw [hr]
 exact h
theorem zJM : laidOutB Tryz.prog = true := by kernel_rfl
theorem turnRow : (177 : TypeId) < Tryz.prog.types.size := of_decide_eq_true (by kernel_rfl)
theorem turnWide : (match Tryz.prog.underlying 177 with | some (.array _ _) | some (.struct _) => true | _ => false) = true := by kernel_rfl
theorem turnLaw : WideMaps.KeyLaw Tryz.prog 177 := deep_law_laid zJM (m := 2) (by omega) turnRow (by kernel_rfl) turnWide
theorem zIP : Keyed Tryz.prog 177 := Keyed.of_law turnLaw
theorem zero2 (w : World) : (zeroValue 2).run Tryz.prog w = .ok (.int .i64 0) w := by kernel_rfl
abbrev tk (s e : Int) : Value := .agg #[.int .i64 s, .int .i64 e]
theorem key_two {P : Program} {t u : TypeId} {f0 f1 : Field} (ht : P.underlying t = some (.struct #[f0, f1])) (hu : P.underlying u = some (.int .i64)) (h0 : f0.type = u) (h1 : f1.type = u) (o0 : f0.offset = 0) (o1 : f1.offset = 1)
    (n0 : (f0.name != "_") = true) (n1 : (f1.name != "_") = true) (hc : P.cellsOf t = 2) (hcu : P.cellsOf u = 1) (hk : P.keyType t = true) (hsz : 0 < P.types.size) {s e : Int} (hs : (Lit.int .i64 s).wf = true) (he : (Lit.int .i64 e).wf = true) : ∃ l, keyOf P t (tk s e) = some l := by
 have h2 : (tk s e).formed P t = true := by simp [Value.formed, ht, hc]
 obtain ⟨m, hm⟩ : ∃ m, P.types.size = m + 1 := ⟨P.types.size - 1, by omega⟩
 have h3 : P.keyLits (P.types.size + 1) t (tk s e).cells.toList = some [.int .i64 s, .int .i64 e] := by
  rw [hm]
  simp only [Program.keyLits, ht, Value.cells]
  simp [hc, n0, n1, h0, h1, o0, o1, hcu, hu, hs, he]
 refine ⟨.string (keyBytes [.int .i64 s, .int .i64 e]), ?_⟩
 unfold keyOf
 rw [ht]
 simp only [hk, h2, h3, Bool.and_self, if_true, Option.map_some]
theorem tk_key {s e : Int} (hs : (Lit.int .i64 s).wf = true) (he : (Lit.int .i64 e).wf = true) : ∃ l, keyOf Tryz.prog 177 (tk s e) = some l :=
 key_two Tryz.underlying177 Tryz.underlying2 rfl rfl rfl rfl (by decide) (by decide) (by kernel_rfl) (by kernel_rfl) (by kernel_rfl) (of_decide_eq_true (by kernel_rfl)) hs he
def zGb (s e : Int) : Option Int :=
 if s = 1 then (if e = 1 then some 1 else if e = 4 ∨ e = 5 then some 0 else none)
 else if s = 2 ∨ s = 3 then (if e = 1 then some s else if e = 2 then some 3 else if e = 3 then some 1 else if e = 4 ∨ e = 5 then some 0 else none) else none
def zJN : List Nat := [2, 4, 6, 8, 10, 12, 14, 16, 18, 20, 22, 24, 26]
def zFB : Nat → Value
 | 2 => tk 1 1
 | 4 => tk 1 4
 | 6 => tk 1 5
 | 8 => tk 2 1
 | 10 => tk 2 2
 | 12 => tk 2 3
 | 14 => tk 2 4
 | 16 => tk 2 5
 | 18 => tk 3 1
 | 20 => tk 3 2
 | 22 => tk 3 3
 | 24 => tk 3 4
 | 26 => tk 3 5
 | _ => .bool false
def zMA : Nat → Int
 | 2 => 1
 | 4 => 0
 | 6 => 0
 | 8 => 2
 | 10 => 3
 | 12 => 1
 | 14 => 0
 | 16 => 0
 | 18 => 3
 | 20 => 3
 | 22 => 1
 | 24 => 0
 | 26 => 0
 | _ => 0
def unTk : Value → Int × Int
 | .agg cs => (match cs.toList with | [.int _ a, .int _ b] => (a, b) | _ => (0, 0))
 | _ => (0, 0)
theorem turn_all {f : Value → Option Int} (h1 : ∀ j ∈ zJN, f (zFB j) = some (zMA j)) (h2 : ∀ v, (∀ j ∈ zJN, v ≠ zFB j) → f v = none) (s e : Int) : f (tk s e) = zGb s e := by
 by_cases c2 : s = 1 ∧ e = 1
 ·obtain ⟨rfl, rfl⟩ := c2; exact h1 2 (by decide)
 by_cases c4 : s = 1 ∧ e = 4
 ·obtain ⟨rfl, rfl⟩ := c4; exact h1 4 (by decide)
 by_cases c6 : s = 1 ∧ e = 5
 ·obtain ⟨rfl, rfl⟩ := c6; exact h1 6 (by decide)
 by_cases c8 : s = 2 ∧ e = 1
 ·obtain ⟨rfl, rfl⟩ := c8; exact h1 8 (by decide)
 by_cases c10 : s = 2 ∧ e = 2
 ·obtain ⟨rfl, rfl⟩ := c10; exact h1 10 (by decide)
 by_cases c12 : s = 2 ∧ e = 3
 ·obtain ⟨rfl, rfl⟩ := c12; exact h1 12 (by decide)
 by_cases c14 : s = 2 ∧ e = 4
 ·obtain ⟨rfl, rfl⟩ := c14; exact h1 14 (by decide)
 by_cases c16 : s = 2 ∧ e = 5
 ·obtain ⟨rfl, rfl⟩ := c16; exact h1 16 (by decide)
 by_cases c18 : s = 3 ∧ e = 1
 ·obtain ⟨rfl, rfl⟩ := c18; exact h1 18 (by decide)
 by_cases c20 : s = 3 ∧ e = 2
 ·obtain ⟨rfl, rfl⟩ := c20; exact h1 20 (by decide)
 by_cases c22 : s = 3 ∧ e = 3
 ·obtain ⟨rfl, rfl⟩ := c22; exact h1 22 (by decide)
 by_cases c24 : s = 3 ∧ e = 4
 ·obtain ⟨rfl, rfl⟩ := c24; exact h1 24 (by decide)
 by_cases c26 : s = 3 ∧ e = 5
 ·obtain ⟨rfl, rfl⟩ := c26; exact h1 26 (by decide)
 rw [h2 _ (by
  intro j hj
  simp only [zJN, List.mem_cons, List.not_mem_nil, or_false] at hj
  rcases hj with rfl | rfl | rfl | rfl | rfl | rfl | rfl | rfl | rfl | rfl | rfl | rfl | rfl <;> simp only [zFB, tk, ne_eq, Value.agg.injEq, Array.mk.injEq, List.cons.injEq, Value.int.injEq, true_and, and_true] <;> assumption)]
 unfold zGb
 by_cases hs1 : s = 1
 ·rw [if_pos hs1]
  repeat' split
  all_goals first | rfl | omega
 ·rw [if_neg hs1]
  repeat' split
  all_goals first | rfl | omega
theorem zMB (w : World) :
    Calls Tryz.prog 148 #[] w fun e w' => ∃ b n f, e = .returned (.map (some b)) ∧ w.heap.size ≤ b ∧ MapV Tryz.prog 177 2 w' b n f ∧ (∀ s e, f (tk s e) = zGb s e) ∧ Below w.heap.size w w' := by
 go_enter Tryz.func148, Tryz.ntmps148
 go_upto_region 1 with fail
 refine wp_region_any (by kernel_rfl) ?_
 refine wpAny_take (i := 1) (v := tk 1 1) rfl (by kernel_rfl) (by kernel_rfl) (by kernel_rfl) (fun _ _ _ h => h) (.inl ⟨rfl, fun _ => by kernel_rfl⟩) ?_
 refine wpAny_take (i := 3) (v := tk 1 4) rfl (by kernel_rfl) (by kernel_rfl) (by kernel_rfl) (fun _ _ _ h => h) (.inl ⟨rfl, fun _ => by kernel_rfl⟩) ?_
 refine wpAny_take (i := 5) (v := tk 1 5) rfl (by kernel_rfl) (by kernel_rfl) (by kernel_rfl) (fun _ _ _ h => h) (.inl ⟨rfl, fun _ => by kernel_rfl⟩) ?_
 refine wpAny_take (i := 7) (v := tk 2 1) rfl (by kernel_rfl) (by kernel_rfl) (by kernel_rfl) (fun _ _ _ h => h) (.inl ⟨rfl, fun _ => by kernel_rfl⟩) ?_
 refine wpAny_take (i := 9) (v := tk 2 2) rfl (by kernel_rfl) (by kernel_rfl) (by kernel_rfl) (fun _ _ _ h => h) (.inl ⟨rfl, fun _ => by kernel_rfl⟩) ?_
 refine wpAny_take (i := 11) (v := tk 2 3) rfl (by kernel_rfl) (by kernel_rfl) (by kernel_rfl) (fun _ _ _ h => h) (.inl ⟨rfl, fun _ => by kernel_rfl⟩) ?_
 refine wpAny_take (i := 13) (v := tk 2 4) rfl (by kernel_rfl) (by kernel_rfl) (by kernel_rfl) (fun _ _ _ h => h) (.inl ⟨rfl, fun _ => by kernel_rfl⟩) ?_
 refine wpAny_take (i := 15) (v := tk 2 5) rfl (by kernel_rfl) (by kernel_rfl) (by kernel_rfl) (fun _ _ _ h => h) (.inl ⟨rfl, fun _ => by kernel_rfl⟩) ?_
 refine wpAny_take (i := 17) (v := tk 3 1) rfl (by kernel_rfl) (by kernel_rfl) (by kernel_rfl) (fun _ _ _ h => h) (.inl ⟨rfl, fun _ => by kernel_rfl⟩) ?_
 refine wpAny_take (i := 19) (v := tk 3 2) rfl (by kernel_rfl) (by kernel_rfl) (by kernel_rfl) (fun _ _ _ h => h) (.inl ⟨rfl, fun _ => by kernel_rfl⟩) ?_
 refine wpAny_take (i := 21) (v := tk 3 3) rfl (by kernel_rfl) (by kernel_rfl) (by kernel_rfl) (fun _ _ _ h => h) (.inl ⟨rfl, fun _ => by kernel_rfl⟩) ?_
 refine wpAny_take (i := 23) (v := tk 3 4) rfl (by kernel_rfl) (by kernel_rfl) (by kernel_rfl) (fun _ _ _ h => h) (.inl ⟨rfl, fun _ => by kernel_rfl⟩) ?_
 refine wpAny_take (i := 25) (v := tk 3 5) rfl (by kernel_rfl) (by kernel_rfl) (by kernel_rfl) (fun _ _ _ h => h) (.inl ⟨rfl, fun _ => by kernel_rfl⟩) ?_
 refine wpAny_all (rs := [0]) (by kernel_rfl) (by simp) fun i hi => ?_
 obtain rfl : i = 0 := by simpa using hi
 refine zL6 rfl rfl (v := .map (some w.heap.size)) (w' := w.drew.alloc (.map #[] 0)) rfl ?_
 refine zHW (J := zJN) (listed1 := #[true, true, true, true, true, true, true, true, true, true, true, true, true, true, true, true, true, true, true, true, true, true, true, true, true, true, true, false, false]) (key := zFB) (val := zMA) (k := 177) (e := 2) (b := w.heap.size) (W := w.drew.alloc (.map #[] 0)) (f0 := fun _ => none) (n0 := 0) (fuel := 2)
  (by kernel_rfl) (by decide) (by kernel_rfl) (by kernel_rfl) ?ins zIP Tryz.underlying2 ?inj (by decide) ?fin 13 _ _ 0 (fun _ => none) rfl (fun _ _ => rfl) (by kernel_rfl) (zM8 w.drew _ _ _) (by decide) ?none (fun _ _ => rfl) ⟨rfl, rfl, rfl, Nat.le_refl _, fun _ _ _ => rfl⟩
 case ins =>
  intro j hj
  simp only [zJN, List.mem_cons, List.not_mem_nil, or_false] at hj
  rcases hj with rfl | rfl | rfl | rfl | rfl | rfl | rfl | rfl | rfl | rfl | rfl | rfl | rfl
  all_goals exact ⟨⟨_, _, _, _, _, rfl, rfl, rfl, rfl, Tryz.underlying174, rfl, rfl, rfl⟩, tk_key (by decide) (by decide), by decide⟩
 case inj =>
  intro i hi j hj h
  exact (show ∀ i ∈ zJN, ∀ j ∈ zJN, unTk (zFB i) = unTk (zFB j) → i = j by decide) i hi j hj (congrArg unTk h)
 case none =>
  exact zJL (by kernel_rfl)
 case fin =>
  intro w1 n f hm hn h1 h2 hg
  refine wpAny_take (i := 27) (v := .map (some w.heap.size)) rfl (by kernel_rfl) (by kernel_rfl) (by kernel_rfl) (fun _ _ _ h => h) (.inl ⟨rfl, fun _ => by kernel_rfl⟩) ?_
  refine wpAny_take (i := 28) (v := .map (some w.heap.size)) rfl (by kernel_rfl) (by kernel_rfl) (by kernel_rfl) (fun _ _ _ h => h) (.inl ⟨rfl, fun _ => by kernel_rfl⟩) ?_
  refine wpAny_done (by kernel_rfl) ?_ 0
  go_wp2
  go_ret
  exact ⟨_, n, f, rfl, Nat.le_refl _, hm, turn_all h1 h2, ((Below.refl w.heap.size w).drew.alloc (Nat.le_refl _) _).grown hg (by simp) (fun j hj => by cases hj; exact Nat.le_refl _)⟩
def nextV (s e : Int) : Value := .tuple #[.int .i64 ((zGb s e).getD s), .bool (zGb s e).isSome]
theorem zEl (s e : Int) (w : World) (hs : (Lit.int .i64 s).wf = true) (he : (Lit.int .i64 e).wf = true) :
    Calls Tryz.prog 126 #[.int .i64 s, .int .i64 e] w fun x w' => x = .returned (nextV s e) ∧ Below w.heap.size w w' := by
 obtain ⟨l, hl⟩ := tk_key hs he
 unfold nextV
 obtain ⟨o, ho⟩ : ∃ o, zGb s e = o := ⟨_, rfl⟩
 rw [ho]
 cases o
 all_goals
  simp only [Option.getD_none, Option.isSome_none, Option.getD_some, Option.isSome_some]
  go_enter Tryz.func126, Tryz.ntmps126
  go_wp2_with fail
  refine (zMB _).mono ?_
  rintro _ w1 ⟨b, n, f, rfl, hb, hm, hf, B⟩
  have hlk := hm.look_ok zIP Tryz.underlying174 Tryz.underlying2 (zero2 _) hl
  rw [hf, ho] at hlk
  simp only [Option.getD_none, Option.isSome_none, Option.getD_some, Option.isSome_some] at hlk
  go_wp2
  go_ret2
  exact ⟨rfl, B⟩
def zEd : Array Value := #[.bool false, .bool false, .bool false, .bool true, .bool false, .bool false, .bool true, .bool true, .bool false, .bool true, .bool true, .bool true]
def Hold (w : World) : Prop := ∃ t fz, w.heap[0]? = some (.cells zEd t fz)
theorem Hold.lt {w : World} (h : Hold w) : 0 < w.heap.size := by obtain ⟨t, fz, h⟩ := h; exact (Array.getElem?_eq_some_iff.1 h).1
theorem Hold.below {w w' : World} {m : Nat} (h : Hold w) (hB : Below m w w') (hm : 0 < m) : Hold w' := by
 obtain ⟨t, fz, h⟩ := h
 exact ⟨t, fz, (hB.block 0 hm).trans h⟩
theorem Hold.goes {w w' : World} (h : Hold w) (hB : Below w.heap.size w w') : Hold w' := h.below hB h.lt
theorem Hold.grown {w w' : World} {b : Nat} (h : Hold w) (hg : w.grownBy w' (some b)) (hb : 0 < b) : Hold w' := by
 have hl := h.lt
 obtain ⟨t, fz, h⟩ := h
 exact ⟨t, fz, (hg.block 0 hl (by simp; omega)).trans h⟩
theorem Hold.drewN {w : World} (h : Hold w) (q : Nat) : Hold (w.drewN q) := h
theorem Hold.cells {w : World} (h : Hold w) :
    w.cell? ⟨0, 0, none⟩ = some (.bool false) ∧ w.cell? ⟨0, 1, none⟩ = some (.bool false) ∧ w.cell? ⟨0, 2, none⟩ = some (.bool false) ∧
    w.cell? ⟨0, 3, none⟩ = some (.bool true) ∧ w.cell? ⟨0, 4, none⟩ = some (.bool false) ∧ w.cell? ⟨0, 5, none⟩ = some (.bool false) ∧
    w.cell? ⟨0, 6, none⟩ = some (.bool true) ∧ w.cell? ⟨0, 7, none⟩ = some (.bool true) ∧ w.cell? ⟨0, 8, none⟩ = some (.bool false) ∧
    w.cell? ⟨0, 9, none⟩ = some (.bool true) ∧ w.cell? ⟨0, 10, none⟩ = some (.bool true) ∧ w.cell? ⟨0, 11, none⟩ = some (.bool true) := by
 obtain ⟨t, fz, h⟩ := h
 refine ⟨?_, ?_, ?_, ?_, ?_, ?_, ?_, ?_, ?_, ?_, ?_, ?_⟩ <;> (rw [cell_of_row w 0 _ _ _ _ h]; rfl)
abbrev hk (a b c : Bool) : Value := .agg #[.bool a, .bool b, .bool c]
def readI (s : Int) : Int := if s = 0 then 1 else 0
def zMC (s : Int) : Int := if s < 2 then 2 else 0
def zCl (s : Int) (wr : Bool) : Int := if zAQ s 0 3 then (if wr then zMC s else readI s) else -1
theorem zIQ {s : Int} (h : zAQ s 0 3 = true) : s = 0 ∨ s = 1 ∨ s = 2 ∨ s = 3 := by simp [zAQ] at h; omega
theorem zHp (s : Int) (w : World) (h : Hold w) (hs : zAQ s 0 3 = true) :
    Calls Tryz.prog 151 #[.int .i64 s] w fun x w' => x = .returned (.int .i64 (readI s)) ∧ w' = w := by
 obtain ⟨c0, c1, c2, c3, c4, c5, c6, c7, c8, c9, c10, c11⟩ := h.cells
 rcases zIQ hs with rfl | rfl | rfl | rfl
 all_goals
  clear hs
  go_enter Tryz.func151, Tryz.ntmps151
  go_wp2
  go_ret
  exact ⟨rfl, rfl⟩
theorem zG0 (s : Int) (w : World) (h : Hold w) (hs : zAQ s 0 3 = true) :
    Calls Tryz.prog 150 #[.int .i64 s] w fun x w' => x = .returned (.int .i64 (zMC s)) ∧ w' = w := by
 obtain ⟨c0, c1, c2, c3, c4, c5, c6, c7, c8, c9, c10, c11⟩ := h.cells
 rcases zIQ hs with rfl | rfl | rfl | rfl
 all_goals
  clear hs
  go_enter Tryz.func150, Tryz.ntmps150
  go_wp2
  go_ret
  exact ⟨rfl, rfl⟩
theorem zET (s : Int) (w : World) :
    Calls Tryz.prog 149 #[.int .i64 s] w fun x w' => x = .returned (.bool (zAQ s 0 3)) ∧ w' = w := by
 go_enter Tryz.func149, Tryz.ntmps149
 go_wp2_with fail
 refine (zBe _ _ _ _).mono ?_
 rintro _ w1 ⟨rfl, rfl⟩
 go_wp2
 go_ret
 exact ⟨rfl, rfl⟩
theorem zIR (s : Int) (wr : Bool) (w : World) (h : Hold w) :
    Calls Tryz.prog 130 #[.int .i64 s, .bool wr] w fun x w' => x = .returned (.int .i64 (zCl s wr)) ∧ w' = w := by
 by_cases hs : zAQ s 0 3 = true
 ·cases wr
  ·go_enter Tryz.func130, Tryz.ntmps130
   go_wp2_with fail
   refine (zET _ _).mono ?_
   rintro _ w1 ⟨rfl, rfl⟩
   rw [hs]
   go_wp2_with fail
   refine (zHp _ _ h hs).mono ?_
   rintro _ w1 ⟨rfl, rfl⟩
   go_wp2
   go_ret
   exact ⟨by simp [zCl, hs], rfl⟩
  ·go_enter Tryz.func130, Tryz.ntmps130
   go_wp2_with fail
   refine (zET _ _).mono ?_
   rintro _ w1 ⟨rfl, rfl⟩
   rw [hs]
   go_wp2_with fail
   refine (zG0 _ _ h hs).mono ?_
   rintro _ w1 ⟨rfl, rfl⟩
   go_wp2
   go_ret
   exact ⟨by simp [zCl, hs], rfl⟩
 ·have hs' : zAQ s 0 3 = false := by simpa using hs
  go_enter Tryz.func130, Tryz.ntmps130
  go_wp2_with fail
  refine (zET _ _).mono ?_
  rintro _ w1 ⟨rfl, rfl⟩
  rw [hs']
  go_wp2
  go_ret
  exact ⟨by simp [zCl, hs'], rfl⟩
theorem zFN (s : Int) (wr : Bool) (w : World) :
    Calls Tryz.prog 84 #[.int .i64 s, .bool wr] w fun x w' => x = .returned (.int .i64 (zCl s wr)) ∧ w' = w := by
 by_cases hs : zAQ s 0 3 = true
 ·rcases zIQ hs with rfl | rfl | rfl | rfl
  all_goals
   cases wr
   all_goals
    go_enter Tryz.func84, Tryz.ntmps84
    go_wp2_with fail
    refine (zBa _ _ _ _).mono ?_
    rintro _ w1 ⟨rfl, rfl⟩
    rw [hs]
    go_wp2
    go_ret
    exact ⟨rfl, rfl⟩
 ·have hs' : zAQ s 0 3 = false := by simpa using hs
  go_enter Tryz.func84, Tryz.ntmps84
  go_wp2_with fail
  refine (zBa _ _ _ _).mono ?_
  rintro _ w1 ⟨rfl, rfl⟩
  rw [hs']
  go_wp2
  go_ret
  exact ⟨by simp [zCl, hs'], rfl⟩
end Go.Proofs.YtoihjejenjcokaaGreatDoor
