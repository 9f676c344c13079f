import Derived.Test.YtmaopldahnejdaaGreatDoorH00Box
import Derived.Maps.OwnSet
import Derived.DeepKeys4
import Derived.WideKeyEntry
import Derived.Orders
import Derived.Maps.AppendAt
import Derived.Test.YtmaopldahnejdaaGreatDoorProg
import Derived.Test.YtmaopldahnejdaaGreatDoorH03
import Derived.RowKit
import Derived.Deep.Cut
import Derived.Deep.CutBlock
import Derived.OwnWalk
import Derived.BigRegion
import Derived.Test.YtmaopldahnejdaaGreatDoorCards
import Derived.Test.YtmaopldahnejdaaGreatDoorTie
import Derived.ChangeSame
import Derived.ChangeVars
import Derived.JoinedOf
import Derived.LaidLaws
import Derived.Deep.Strs
namespace Go.Proofs.YtmaopldahnejdaaGreatDoor
set_option maxHeartbeats 1000000
set_option maxRecDepth 100000
open Go.ChangeShapes Go.WideShapes Go.RowKit
open Go.Maps (Keyed has_put_same has_put_other atKey_put_same atKey_put_other)
set_option linter.unusedVariables false
def MapV (P : Program) (k e : TypeId) (w : World) (b n : Nat) (f : Value → Option Int) : Prop :=
 ∃ D : DataW Unit, w.ownsMap P k (plainElem P e) b n D ∧ ∀ v l, keyOf P k v = some l → Maps.has D l = (f v).isSome ∧ D.atKey l (.lit (.int .i64 0)) = .lit (.int .i64 ((f v).getD 0))
open Classical in
noncomputable def putV (f : Value → Option Int) (v : Value) (x : Int) : Value → Option Int := fun u => if u = v then some x else f u
theorem putV_same (f : Value → Option Int) (v : Value) (x : Int) : putV f v x v = some x := by simp [putV]
theorem putV_other (f : Value → Option Int) {v u : Value} (x : Int) (h : u ≠ v) : putV f v x u = f u := by simp [putV, h]
section
variable {P : Program} {k e t : TypeId} {w : World} {b n : Nat} {f : Value → Option Int}
theorem mapV_made (w : World) (P : Program) (k e : TypeId) : MapV P k e (w.alloc (.map #[] 0)) w.heap.size 0 (fun _ => none) :=
 ⟨.map [], World.ownsMap_made w P k _, fun v l _ => ⟨rfl, rfl⟩⟩
theorem MapV.lt (h : MapV P k e w b n f) : b < w.heap.size := by obtain ⟨D, h, _⟩ := h; exact h.lt
theorem MapV.alloc (h : MapV P k e w b n f) (o : Obj) : MapV P k e (w.alloc o) b n f := by obtain ⟨D, h, a⟩ := h; exact ⟨D, h.alloc o, a⟩
theorem MapV.drewN (h : MapV P k e w b n f) (q : Nat) : MapV P k e (w.drewN q) b n f := by
 obtain ⟨D, ⟨g, a, d, r⟩, c⟩ := h; exact ⟨D, ⟨g, a, d, r⟩, c⟩
theorem MapV.block {w' : World} (h : MapV P k e w b n f) (hb : w'.heap[b]? = w.heap[b]?) : MapV P k e w' b n f := by
 obtain ⟨D, ⟨g, a, d, r⟩, c⟩ := h; exact ⟨D, ⟨g, a, by rw [hb]; exact d, r⟩, c⟩
theorem MapV.below {w' : World} {m : Nat} (h : MapV P k e w b n f) (hB : Below m w w') (hm : b < m) : MapV P k e w' b n f := h.block (hB.block b hm)
theorem MapV.mono {n' : Nat} (h : MapV P k e w b n f) (hn : n ≤ n') : MapV P k e w b n' f := by obtain ⟨D, h, a⟩ := h; exact ⟨D, h.mono hn, a⟩
theorem MapV.congr {g : Value → Option Int} (h : MapV P k e w b n f) (hfg : ∀ v l, keyOf P k v = some l → f v = g v) : MapV P k e w b n g := by
 obtain ⟨D, h, a⟩ := h;exact ⟨D, h, fun v l hl => by rw [← hfg v l hl]; exact a v l hl⟩
theorem MapV.look (h : MapV P k e w b n f) (K : Keyed P k) (ht : P.underlying t = some (.map k e)) (he : P.underlying e = some (.int .i64)) (hz : (zeroValue e).run P w = .ok (nI 0) w) {v : Value} {l : Lit} (hl : keyOf P k v = some l) :
    (Instr.lookup t (.map (some b)) v false).run P w = .ok (nI ((f v).getD 0)) w := by
 obtain ⟨D, h, g⟩ := h;obtain ⟨c, d, a, _⟩ := h.lookup_int K ht he hz hl;rw [(g v l hl).2] at a;simp only [DataW.lit.injEq, Lit.int.injEq, true_and] at a;rw [d, a]
theorem MapV.put (h : MapV P k e w b n f) (K : Keyed P k) (ht : P.underlying t = some (.map k e)) (he : P.underlying e = some (.int .i64)) (hn : n < maxLen) {v : Value} {l : Lit} (hl : keyOf P k v = some l) {x : Int} (hx : (Lit.int .i64 x).wf = true) :
    ∃ a, (Instr.mapUpdate t (.map (some b)) v (nI x)).run P w = .ok () a ∧ MapV P k e a b (n + 1) (putV f v x) ∧ w.grownBy a (some b) := by
 obtain ⟨D, h, i⟩ := h;obtain ⟨a, c, j, o⟩ := h.update K ht hn hl (plainElem_int he hx);refine ⟨a, c, ⟨_, j, fun u l' hl' => ?_⟩, o⟩;by_cases g : u = v
 ·subst g;rw [hl] at hl';cases hl'
  rw [putV_same, has_put_same h.isMap (K.key hl), atKey_put_same h.isMap (K.key hl)];exact ⟨rfl, rfl⟩
 ·have d : l' ≠ l := fun e => g (K.inj hl' (e ▸ hl));rw [putV_other f x g, has_put_other d, atKey_put_other d];exact i u l' hl'
theorem MapV.wiped (h : MapV P k e w b n f) (ht : P.underlying t = some (.map k e)) (ty : TypeId) :
    ∃ w', (Builtin.clear_ #[t] ty #[.map (some b)]).run P w = .ok (.tuple #[]) w' ∧ MapV P k e w' b n (fun _ => none) ∧ w.grownBy w' (some b) := by
 obtain ⟨D, ⟨es, a, c, F, hs, rfl⟩, hf⟩ := h;refine ⟨ChangeMaps.setBlock w b (.map #[] a), ?_, ⟨.map [], ⟨#[], a, ChangeMaps.heap_setBlock_same c _, ⟨by simp, MapKept.stamped_empty a, by simp⟩, by simp, rfl⟩, fun v l _ => ⟨rfl, rfl⟩⟩, ⟨rfl, rfl, rfl, by simp [ChangeMaps.setBlock], fun i _ hi => ChangeMaps.heap_setBlock_other c _ (fun e => hi (by rw [e]))⟩⟩;simp [Builtin.clear_, run_underlying ht, MapKept.run_getObj_map c, MapKept.run_setObj_map _ c, Result.andThen, ChangeMaps.setBlock]
theorem MapV.entry (h : MapV P k e w b n f) (KL : WideMaps.KeyLaw P k) (ht : P.underlying t = some (.map k e)) (he : P.underlying e = some (.int .i64)) (hz : ∀ u : World, (zeroValue e).run P u = .ok (nI 0) u) (hn : n < maxLen) {v : Value} {l : Lit} (hl : keyOf P k v = some l) :
    ∃ (O : Value) (L : Nat) (w1 : World), (Instr.mapEntry t (.map (some b)) v).run P w = .ok (.tuple #[O, goInt L]) w1 ∧ w.grownBy w1 (some b) ∧ (Instr.lookup t (.map (some b)) v false).run P w1 = .ok (nI ((f v).getD 0)) w1 ∧
     ∀ x : Int, (Lit.int .i64 x).wf = true → ∃ w2, (Instr.entryStore t (.map (some b)) (goInt L) (nI x)).run P w1 = .ok () w2 ∧ MapV P k e w2 b (n + 1) (putV f v x) ∧ w.grownBy w2 (some b) := by
 have K := Keyed.of_law KL;have M := h;obtain ⟨D, ⟨s, c, o, F, hs, hD⟩, hf⟩ := h;obtain ⟨O, L, p, d, U, _, X⟩ := WideElems.entry_then_store KL ht hz o F hl;have I : (ChangeMaps.setBlock w b (.map p d)).heap[b]? = some (.map p d) := ChangeMaps.heap_setBlock_same o _;have g1 : w.grownBy (ChangeMaps.setBlock w b (.map p d)) (some b) := ⟨rfl, rfl, rfl, by simp [ChangeMaps.setBlock], fun i _ hi => ChangeMaps.heap_setBlock_other o _ (fun e => hi (by rw [e]))⟩;refine ⟨O, L, _, U, g1, ?_, fun x hx => ?_⟩
 ·-- the world behind the entry is a world behind a store of what was there, but for the element: looked up by the store's own law
  obtain ⟨H, m, g, q⟩ := X _ (nI ((f v).getD 0)) I;have Y := K.find w hl s.toList F.keys;rcases Y with ⟨A, J⟩ | ⟨j, C, A, J, V⟩
  ·have z : (Instr.mapEntry t (.map (some b)) v).run P w = .ok (.tuple #[nI 0, goInt c]) (ChangeMaps.setBlock w b (.map (s.push ⟨v, nI 0, c⟩) (c + 1))) := by
     simp [Instr.mapEntry, run_underlying ht, MapKept.run_getObj_map o, K.check w false hl, A, hz, MapKept.run_setObj_map _ o, Result.andThen, ChangeMaps.setBlock]
   rw [U] at z;simp only [Result.ok.injEq] at z;rw [z.2];have B := M.put K ht he hn hl (x := 0) (by decide);obtain ⟨T, N, S, _⟩ := B;have E : (Instr.mapUpdate t (.map (some b)) v (nI 0)).run P w = .ok () (ChangeMaps.setBlock w b (.map (s.push ⟨v, nI 0, c⟩) (c + 1))) := by
    simp [Instr.mapUpdate, run_underlying ht, MapKept.run_getObj_map o, K.check w false hl, A, MapKept.run_setObj_map _ o, Result.andThen, ChangeMaps.setBlock]
   rw [N] at E;simp only [Result.ok.injEq, true_and] at E;rw [← E];have G := S.look K ht he (hz _) hl;rw [putV_same] at G;have R := M.look K ht he (hz _) hl;have r : (Instr.lookup t (.map (some b)) v false).run P w = .ok (nI 0) w := by
    simp [Instr.lookup, run_underlying ht, MapKept.run_getObj_map o, K.check w _ hl, A, hz, Result.andThen]
   rw [R] at r;simp only [Result.ok.injEq, Value.int.injEq, true_and, and_true] at r;rw [r];simpa using G
  ·have hj : s[j]? = some C := by simpa using J
   have y : s.modify j (fun e => { e with key := v }) = s := by
    apply Array.ext'
    rw [Array.toList_modify, ChangeMaps.modify_eq_set _ _ _ _ J];have : ({ C with key := v } : MapEntry) = C := by rw [← V]
    rw [this];exact WideElems.set_self _ _ _ J
   have z : (Instr.mapEntry t (.map (some b)) v).run P w = .ok (.tuple #[C.val, goInt C.born]) (ChangeMaps.setBlock w b (.map s c)) := by
    simp [Instr.mapEntry, run_underlying ht, MapKept.run_getObj_map o, K.check w false hl, A, hj, V, K.stays w hl, y, MapKept.run_setObj_map _ o, Result.andThen, ChangeMaps.setBlock]
   rw [U] at z;simp only [Result.ok.injEq] at z;rw [z.2];refine (M.block ?_).look K ht he (hz _) hl;rw [ChangeMaps.heap_setBlock_same o _, o]
 ·obtain ⟨H, m, g, q⟩ := X _ (nI x) I;obtain ⟨T, N, S, Z⟩ := M.put K ht he hn hl hx;rw [N] at q;simp only [Result.ok.injEq, true_and] at q;have E : ChangeMaps.setBlock (ChangeMaps.setBlock w b (.map p d)) b (.map H m) = T := by rw [q]; simp [ChangeMaps.setBlock]
  rw [E] at g;exact ⟨T, g, S, Z⟩
variable {ops : Array Oper} {rest : List Oper} {o : Oper} {a : Act} {Q : Exit → Act → World → Prop}
theorem wpList_clear_V (hg : o.guard = none) (m : Operand) (t : TypeId) (hop : o.op = Op.call { callee := Callee.builtin Builtin.clear, args := #[m], argTypes := #[t] })
    (h : MapV P k e w b n f) (ht : P.underlying t = some (.map k e)) (hm : a.eval m = .map (some b))
    (hK : ∀ c, MapV P k e c b n (fun _ => none) → w.grownBy c (some b) → wpList P ops Q rest (a.put o.dst (.tuple #[])) c) :
    wpList P ops Q (o :: rest) a w := by
 refine wpList_plain hg fun K' hK' => ?_;obtain ⟨c, d, i, g⟩ := h.wiped ht o.type;unfold Oper.wp;simp [execOp, hop, resolve, invoke, builtin, hm, d, Result.andThen]
 exact hK' _ _ (hK c i g)
end
#print axioms MapV.look
#print axioms wpList_clear_V
open Go.Maps (Keyed)
theorem laidOutB_ok : laidOutB Tryz.prog = true := by kernel_rfl
theorem zero2 (w : World) : (zeroValue 2).run Tryz.prog w = .ok (.int .i64 0) w := by kernel_rfl
def holdC : Array Value := #[.bool false, .bool false, .bool false, .bool true, .bool false, .bool false, .bool true, .bool true, .bool false, .bool true, .bool true, .bool true]
def HoldT (w : World) : Prop := ∃ t fz, w.heap[0]? = some (.cells holdC t fz)
theorem HoldT.lt {w : World} (h : HoldT w) : 0 < w.heap.size := by obtain ⟨t, fz, h⟩ := h; exact (ltH h)
theorem HoldT.below {w w' : World} {m : Nat} (h : HoldT w) (hB : Below m w w') (hm : 0 < m) : HoldT w' := by
 obtain ⟨t, a, h⟩ := h;exact ⟨t, a, (hB.block 0 hm).trans h⟩
theorem HoldT.goes {w w' : World} (h : HoldT w) (hB : Bl w w') : HoldT w' := h.below hB h.lt
theorem HoldT.grown {w w' : World} {b : Nat} (h : HoldT w) (hg : w.grownBy w' (some b)) (hb : 0 < b) : HoldT w' := by
 have c := h.lt;obtain ⟨t, a, h⟩ := h;exact ⟨t, a, (hg.block 0 c (by simp; omega)).trans h⟩
theorem HoldT.drewN {w : World} (h : HoldT w) (q : Nat) : HoldT (w.drewN q) := h
theorem HoldT.cells {w : World} (h : HoldT w) :
    w.cell? ⟨0, 0, none⟩ = some (.bool false) ∧ w.cell? ⟨0, 1, none⟩ = some (.bool false) ∧ w.cell? ⟨0, 2, none⟩ = some (.bool false) ∧
    w.cell? ⟨0, 3, none⟩ = some (.bool true) ∧ w.cell? ⟨0, 4, none⟩ = some (.bool false) ∧ w.cell? ⟨0, 5, none⟩ = some (.bool false) ∧
    w.cell? ⟨0, 6, none⟩ = some (.bool true) ∧ w.cell? ⟨0, 7, none⟩ = some (.bool true) ∧ w.cell? ⟨0, 8, none⟩ = some (.bool false) ∧
    w.cell? ⟨0, 9, none⟩ = some (.bool true) ∧ w.cell? ⟨0, 10, none⟩ = some (.bool true) ∧ w.cell? ⟨0, 11, none⟩ = some (.bool true) := by
 obtain ⟨t, fz, h⟩ := h;refine ⟨?_, ?_, ?_, ?_, ?_, ?_, ?_, ?_, ?_, ?_, ?_, ?_⟩ <;> (rw [cell_of_row w 0 _ _ _ _ h]; rfl)
abbrev hk (a b c : Bool) : Value := .agg #[.bool a, .bool b, .bool c]
theorem holdRow : (160 : TypeId) < Tryz.prog.types.size := of_decide_eq_true (by kernel_rfl)
theorem holdWide : (match Tryz.prog.underlying 160 with | some (.array _ _) | some (.struct _) => true | _ => false) = true := by kernel_rfl
theorem holdLaw : WideMaps.KeyLaw Tryz.prog 160 := deep_law_laid laidOutB_ok (m := 2) (by omega) holdRow (by kernel_rfl) holdWide
theorem holdKeyed : Keyed Tryz.prog 160 := Keyed.of_law holdLaw
theorem hk_key (a b c : Bool) : ∃ l, keyOf Tryz.prog 160 (hk a b c) = some l :=
 Option.isSome_iff_exists.1 (by cases a <;> cases b <;> cases c <;> kernel_rfl)
abbrev holdName : String := "loop.example/g00342/impl.holdings"
abbrev holdD {H : Type} : DataW H := .agg [.agg [.lit (.bool false), .lit (.bool false), .lit (.bool false)], .agg [.lit (.bool true), .lit (.bool false), .lit (.bool false)], .agg [.lit (.bool true), .lit (.bool true), .lit (.bool false)], .agg [.lit (.bool true), .lit (.bool true), .lit (.bool true)]]
abbrev holdLT : List (String × DataW Unit) := [(holdName, Rows.laid_loop_example_g00342_impl_holdings)]
theorem gHold : Tryz.prog.globalNamed holdName = some 0 := by kernel_rfl
theorem gHoldType : (Tryz.prog.globals[0]?).map (·.type) = some 161 := by kernel_rfl
theorem hold_reads {H : Type} (enc : TypeId × Value → H) (W : World) (sp : Nat → Bool) : DataW.trod enc Tryz.prog W 0 sp true 4 161 holdC.toList = some (holdD, []) := by kernel_rfl
theorem bool_of_trod {H : Type} {enc : TypeId × Value → H} {P : Program} {w : World} {base : Nat} {sp : Nat → Bool} {held : Bool} {fuel : Nat} {t : TypeId} {c : Value} {y : DataW H × List MemPlace}
    (ht : P.underlying t = some .bool) (h : DataW.trod enc P w base sp held fuel t [c] = some y) : ∃ b, c = .bool b ∧ y = (.lit (.bool b), []) := by
 cases fuel with
 | zero => simp [DataW.trod] at h
 | succ fuel =>
  cases c <;> simp [DataW.trod, ht] at h
  exact ⟨_, rfl, h.symm⟩
theorem bools_of_trod {H : Type} {enc : TypeId × Value → H} {P : Program} {w : World} {base : Nat} {sp : Nat → Bool} {held : Bool} {fuel : Nat} {t u : TypeId} {f0 f1 f2 : Field} {x y z : Value} {r : DataW H × List MemPlace} {a b c : Bool}
    (ht : P.underlying t = some (.struct #[f0, f1, f2])) (hu : P.underlying u = some .bool) (h0 : f0.type = u) (h1 : f1.type = u) (h2 : f2.type = u) (o0 : f0.offset = 0) (o1 : f1.offset = 1) (o2 : f2.offset = 2) (hc : P.cellsOf u = 1)
    (h : DataW.trod enc P w base sp held fuel t [x, y, z] = some r) (hr : r.1 = .agg [.lit (.bool a), .lit (.bool b), .lit (.bool c)]) : x = .bool a ∧ y = .bool b ∧ z = .bool c := by
 obtain ⟨y0, y1, y2, n, rfl, _, g, f, d⟩ := Deep.trod_struct3 ht h;rw [h0, o0, hc] at g;rw [h1, o1, hc] at f;rw [h2, o2, hc] at d;obtain ⟨p0, rfl, rfl⟩ := bool_of_trod hu g;obtain ⟨p1, rfl, rfl⟩ := bool_of_trod hu f;obtain ⟨p2, rfl, rfl⟩ := bool_of_trod hu d;simp at hr
 obtain ⟨rfl, rfl, rfl⟩ := hr;exact ⟨rfl, rfl, rfl⟩
theorem table_of_trod {H : Type} {enc : TypeId × Value → H} {P : Program} {w : World} {base : Nat} {sp : Nat → Bool} {held : Bool} {fuel : Nat} {T t u : TypeId} {f0 f1 f2 : Field} {cs : List Value} {p : List MemPlace}
    (hT : P.underlying T = some (.array 4 t)) (hcT : P.cellsOf T = 12) (hct : P.cellsOf t = 3)
    (ht : P.underlying t = some (.struct #[f0, f1, f2])) (hu : P.underlying u = some .bool) (h0 : f0.type = u) (h1 : f1.type = u) (h2 : f2.type = u) (o0 : f0.offset = 0) (o1 : f1.offset = 1) (o2 : f2.offset = 2) (hc : P.cellsOf u = 1)
    (h : DataW.trod enc P w base sp held fuel T cs = some (holdD, p)) : cs = holdC.toList := by
 cases fuel with
 | zero => simp [DataW.trod] at h
 | succ fuel =>
  simp only [DataW.trod, hT, hcT, hct] at h;split at h
  ·rename_i hl
   obtain ⟨m, d, j, g, k, n, l, c, i, f, a, b, rfl⟩ : ∃ m d j g k n l c i f a b, cs = [m, d, j, g, k, n, l, c, i, f, a, b] := by
    match cs, hl with
    | [m, d, j, g, k, n, l, c, i, f, a, b], _ => exact ⟨m, d, j, g, k, n, l, c, i, f, a, b, rfl⟩
   rw [show List.range 4 = [0, 1, 2, 3] from rfl] at h;simp only [Option.map_eq_some_iff, List.mapM_cons, List.mapM_nil, Option.bind_eq_bind, Option.bind_eq_some_iff, Option.pure_def, Option.some.injEq] at h;obtain ⟨xs, ⟨y0, q, _, ⟨y1, A, _, ⟨y2, y, _, ⟨y3, r, _, rfl, rfl⟩, rfl⟩, rfl⟩, rfl⟩, o⟩ := h;simp only [List.map_cons, List.map_nil, Prod.mk.injEq, DataW.agg.injEq, List.cons.injEq, and_true] at o;obtain ⟨⟨s, z, v, B⟩, _⟩ := o;obtain ⟨rfl, rfl, rfl⟩ := bools_of_trod ht hu h0 h1 h2 o0 o1 o2 hc q s;obtain ⟨rfl, rfl, rfl⟩ := bools_of_trod ht hu h0 h1 h2 o0 o1 o2 hc A z;obtain ⟨rfl, rfl, rfl⟩ := bools_of_trod ht hu h0 h1 h2 o0 o1 o2 hc y v;obtain ⟨rfl, rfl, rfl⟩ := bools_of_trod ht hu h0 h1 h2 o0 o1 o2 hc r B;rfl
  ·cases h
theorem hold_var {W : World} (h : laidMet Tryz.prog holdLT W) : W.var? Tryz.prog holdName = some holdC := by
 obtain ⟨ps, ⟨g, t, c, b, p, q, i, d, a, f, _, _⟩, _⟩ := h;obtain rfl := Option.some.inj (gHold.symm.trans i);obtain rfl := Option.some.inj (gHoldType.symm.trans d);rw [a];have := table_of_trod Tryz.underlying161 (by kernel_rfl) (by kernel_rfl) Tryz.underlying160 Tryz.underlying4 rfl rfl rfl rfl rfl rfl (by kernel_rfl) f;obtain ⟨l⟩ := c;rw [show l = holdC.toList from this]
theorem hold_of_var {W : World} (h : W.var? Tryz.prog holdName = some holdC) : HoldT W := by
 simp only [World.var?, gHold, Option.bind_some] at h;split at h
 ·rename_i cs t fz e
  cases h;exact ⟨t, fz, e⟩
 ·cases h
theorem var_below {W W' : World} (h : W.var? Tryz.prog holdName = some holdC) (hB : Bl W W') : W'.var? Tryz.prog holdName = some holdC := by
 obtain ⟨t, fz, e⟩ := (hold_of_var h).goes hB;simp only [World.var?, gHold, Option.bind_some, e]
theorem vars_hold {H : Type} (enc : TypeId × Value → H) {W : World} (sp : Nat → Bool) (h : W.var? Tryz.prog holdName = some holdC) : DataW.TrodVars enc Tryz.prog W sp [holdName] [holdD] (MemPlace.row ⟨0, 0, none⟩ holdC.size ++ [] ++ []) :=
 ⟨0, 161, holdC, 4, [], [], gHold, gHoldType, h, hold_reads enc W sp, rfl, rfl⟩
theorem vars_one {H : Type} {enc : TypeId × Value → H} {W : World} {gs : List (DataW H)} {q : List MemPlace} (hV : DataW.TrodVars enc Tryz.prog W (fun _ => true) [holdName] gs q) (h : W.var? Tryz.prog holdName = some holdC) : gs = [holdD] := by
 obtain ⟨g, t, c, b, d, p', rfl, j, f, a, i, rfl⟩ := trodVars_one hV;obtain rfl := Option.some.inj (gHold.symm.trans j);obtain rfl := Option.some.inj (gHoldType.symm.trans f);obtain rfl : c = holdC := Option.some.inj (a.symm.trans h);obtain ⟨rfl, rfl⟩ := DataW.Trod.unique (v := .agg holdC) ⟨b, i⟩ ⟨4, hold_reads enc W _⟩;rfl
noncomputable def laidWorldT (os : Os) : World :=
 { World.holding Tryz.prog os ⟨#[], #[], []⟩ with heap := (World.holding Tryz.prog os ⟨#[], #[], []⟩).heap.modify 0 fun
     | .cells _ t frozen => .cells holdC t frozen
     | o => o }
theorem laid_row (os : Os) (args : Array Value) : ((laidWorldT os).forCall (fun _ _ => 0) ⟨#[], args, []⟩).memory.heap[0]? = some (.cells holdC 161 (0, 0)) := by kernel_rfl
theorem laid_metT (os : Os) (args : Array Value) : laidMet Tryz.prog holdLT ((laidWorldT os).forCall (fun _ _ => 0) ⟨#[], args, []⟩).memory := by
 refine ⟨_, ⟨0, 161, holdC, 8, [], [], by kernel_rfl, by kernel_rfl, by kernel_rfl, by kernel_rfl, rfl, rfl⟩, by decide, fun b off h => ?_⟩;have a : MemPlace.cell b off ∈ [MemPlace.cell 0 0, .cell 0 1, .cell 0 2, .cell 0 3, .cell 0 4, .cell 0 5, .cell 0 6, .cell 0 7, .cell 0 8, .cell 0 9, .cell 0 10, .cell 0 11] := h;have c : b = 0 := by
  simp at a
  omega
 subst c;refine ⟨⟨_, _, laid_row os args⟩, fun u v hc => ?_⟩;simp only [World.cell?, laid_row os args] at hc;simp at a
 rcases a with rfl | rfl | rfl | rfl | rfl | rfl | rfl | rfl | rfl | rfl | rfl | rfl <;> simp [holdC] at hc
open Go.ChangeShapes Go.WideShapes Go.ChangeAt Go.RowKit
theorem szInt64SS_rep (a : Option Addr) (xs : List (List Int)) (cap : Nat) (left : Int) (w : World) (h : SlRd intsR w a xs) (h0 : 0 ≤ left) (h1 : left ≤ 1048576) (hm : xs.length ≤ maxLen) :
    Calls Tryz.prog 62 #[sL a xs.length cap, nI left] w fun e s => e = .returned (nI (szI ((slM intsM).bk xs) left)) ∧ s = w := by
 have I : xs.length ≤ 9223372036854775807 := hm;have f : (slM intsM).bk xs = xs.length + sumbk intsM xs := rfl;clear hm;by_cases hl : (xs.length : Int) ≤ left
 ·have y : ¬ (left - (xs.length : Int) < 0) := by omega
  have D : Hid _ := f;clear f;go_enter Tryz.func62, Tryz.ntmps62;go_wp2;go_loop [1, 5] (fun q i => ∃ k : Nat, k ≤ xs.length ∧ i = nI k ∧ (sumbk intsM (xs.take k) : Int) + xs.length ≤ left ∧ q = nI (left - (xs.length : Int) - sumbk intsM (xs.take k))) (fun _ i => xs.length - (intOf i).toNat)
  case atStart => exact ⟨0, Nat.zero_le _, rfl, by simp [sumbk]; omega, by simp [sumbk]⟩
  case round =>
   obtain ⟨k, hk, rfl, A, rfl⟩ := hrel;by_cases n : k < xs.length
   ·have E : (k : Int) < (xs.length : Int) := by omega
    obtain ⟨x, j⟩ : ∃ x, xs[k]? = some x := ⟨_, List.getElem?_eq_getElem n⟩;obtain ⟨b, F, c, rfl, ⟨aj, cj, rfl, v, l, g⟩, d⟩ := slrd_at h j;have H := d 0 _ rfl;rw [show k * (intsR).size + 0 = k from Nat.mul_one k] at H;have HR : Hid _ := g;have B : Hid _ := Nat.le_trans v l;have z : Hid _ := sumbk_step (M := intsM) j;have o := sumbk_get (M := intsM) j;clear h j d g;generalize sumbk intsM (xs.take k) = T at A z o ⊢;by_cases C : (((intsM).bk x : Nat) : Int) ≤ left - (xs.length : Int) - (T : Int)
    ·have G : ¬ (left - (xs.length : Int) - (T : Int) - (((intsM).bk x : Nat) : Int) < 0) := by omega
     have p : Hid (szI ((intsM).bk x) (left - (xs.length : Int) - (T : Int)) = _) := szI_yes C;go_wp2_with (go_at_call 64; refine (szInt64S_rep _ x _ _ _ (by omega) (by omega) B.out).mono ?_; rintro e s ⟨rfl, rfl⟩; rw [p.out])
     go_round
     case rel => exact ⟨k + 1, by omega, by go_num, by have := z.out; omega, by rw [z.out]; go_num⟩
     case measure => simp [intOf]; omega
    ·have p : Hid (szI ((intsM).bk x) (left - (xs.length : Int) - (T : Int)) = _) := szI_no C;have r : Hid (szI ((slM intsM).bk xs) left = -1) := by unfold Hid; rw [D.out]; exact szI_no (by omega)
     go_wp2_with (go_at_call 64; refine (szInt64S_rep _ x _ _ _ (by omega) (by omega) B.out).mono ?_; rintro e s ⟨rfl, rfl⟩; rw [p.out])
     go_ret
     exact ⟨ret_int r.out.symm, rfl⟩
   ·have m : k = xs.length := by omega
    subst m;rw [List.take_length] at A ⊢;have r : Hid (szI ((slM intsM).bk xs) left = left - (xs.length : Int) - (sumbk intsM xs : Int)) := by unfold Hid; rw [D.out, szI_yes (by omega)]; omega
    go_wp2;go_ret
    exact ⟨ret_int r.out.symm, rfl⟩
 ·have y : left - (xs.length : Int) < 0 := by omega
  rw [szI_no (by omega)];clear f h;go_enter Tryz.func62, Tryz.ntmps62;go_wp2;go_ret
  exact ⟨rfl, rfl⟩
theorem Tryz.infoInt64SS : (Tryz.prog.info? 28).map (fun i => (i.zero, i.size, i.bytes)) = some (some (sL none 0 0), 1, 24) := by kernel_rfl
theorem toInt64SS_rep (a : Option Addr) (xs : List (List Int)) (cap : Nat) (w : World) (h : SlRd intsR w a xs) (hm : (slM intsM).bk xs ≤ 1048576) :
    Calls Tryz.prog 65 #[sL a xs.length cap] w fun e w' => ∃ v, e = .returned v ∧ MadeR (slR 28 intsR) w w' [v] xs := by
 have s : (slM intsM).bk xs = xs.length + sumbk intsM xs := rfl;have F : xs.length ≤ 1048576 := by omega
 have L : Hid (sumbk intsM xs ≤ 1048576) := by unfold Hid; omega
 clear s hm;have o := Go.run_make_row' (P := Tryz.prog) 24 28 (sL none 0 0) 24 Tryz.underlying24 Tryz.infoInt64SS rfl .i64 .i64 xs.length (by omega) (by omega);go_enter Tryz.func65, Tryz.ntmps65;go_wp2;go_loopw [4] (fun i wr => ∃ k : Nat, k ≤ xs.length ∧ i = nI k ∧ Fill 28 intsR w wr xs.length (xs.take k)) (fun i _ => xs.length - (intOf i).toNat)
 case atStart => exact ⟨0, Nat.zero_le _, rfl, by simpa using fillR_start (e := 28) (R := intsR) (w0 := w) (n := xs.length) (cs := madeCells #[sL none 0 0] xs.length) (by unfold maxLen; omega) (by simp [size_madeCells]; exact (Nat.mul_one _).symm)⟩
 case round =>
  obtain ⟨k, hk, rfl, f⟩ := hrel;by_cases g : k < xs.length
  ·have A : (k : Int) < (xs.length : Int) := by omega
   obtain ⟨x, l⟩ : ∃ x, xs[k]? = some x := ⟨_, List.getElem?_eq_getElem g⟩;obtain ⟨b, H, c, rfl, ⟨aj, cj, rfl, J, B, j⟩, d⟩ := slrd_at (slrd_next h (fill_below f)) l;have K := d 0 _ rfl;rw [show k * (intsR).size + 0 = k from Nat.mul_one k] at K;have G : Hid _ := j;have E : Hid ((intsM).bk x ≤ 1048576) := by unfold Hid; have := sumbk_get (M := intsM) l; have := L.out; omega
   have D : Hid (∀ w1 v, MadeR intsR wr w1 [v] x → _) := fun w1 v hm => fillR_step (w1 := w1) (c := [v]) f (by simp; omega) g hm;have O : Hid (xs.take k ++ [x] = xs.take (k + 1)) := by unfold Hid; rw [List.take_add_one, l]; rfl
   clear h l j d o f;go_wp2_with (go_at_call 67; refine (toInt64S_rep _ x _ _ G.out E.out).mono ?_; rintro e w1 ⟨v, rfl, q⟩; obtain ⟨av, cv, rfl⟩ := slown_val q.1; obtain ⟨z, y, m⟩ := D.out _ _ q; obtain ⟨v0, r⟩ := z 0 (Nat.zero_lt_one); have C := y k; rw [show k * (intsR).size + 0 = k from Nat.mul_one k] at r; rw [show k * (intsR).size = k from Nat.mul_one k, O.out] at m; have N : Hid _ := m; clear m q z y)
   go_roundw
   case rel => exact ⟨k + 1, by omega, by go_num, N.out⟩
   case measure => simp [intOf]; omega
  ·have p : k = xs.length := by omega
   subst p;rw [List.take_length] at f;have I := fillR_end f rfl;clear f;go_wp2;go_ret
   exact ⟨_, rfl, I⟩
theorem eqInt64SS_rep (a1 a2 : Option Addr) (xs : List (List Int)) (c1 z : Nat) (w : World) (h1 : SlRd intsR w a1 xs) (h2 : SlRd intsR w a2 xs) (hm : (slM intsM).bk xs ≤ 1152921504606846976) :
    Calls Tryz.prog 68 #[sL a1 xs.length c1, sL a2 xs.length z] w fun e w' => e = .returned (.bool true) ∧ ∃ n, w' = w.drewN n := by
 have v : (slM intsM).bk xs = xs.length + sumbk intsM xs := rfl;have F : xs.length ≤ 1152921504606846976 := by omega
 have R : Hid (sumbk intsM xs ≤ 1152921504606846976) := by unfold Hid; omega
 clear v hm;go_enter Tryz.func68, Tryz.ntmps68;go_wp2;go_loopw [5] (fun i wr => ∃ k : Nat, k ≤ xs.length ∧ i = nI k ∧ ∃ n, wr = w.drewN n) (fun i _ => xs.length - (intOf i).toNat)
 case atStart => exact ⟨0, Nat.zero_le _, rfl, 0, rfl⟩
 case round =>
  obtain ⟨k, hk, rfl, n, m⟩ := hrel;by_cases p : k < xs.length
  ·have A : (k : Int) < (xs.length : Int) := by omega
   obtain ⟨x, l⟩ : ∃ x, xs[k]? = some x := ⟨_, List.getElem?_eq_getElem p⟩;have o : ∀ j, j < w.heap.size → wr.heap[j]? = w.heap[j]? := by rw [m]; exact fun _ _ => rfl
   obtain ⟨b, J, c, rfl, ⟨C, cj, rfl, K, B, g⟩, d⟩ := slrd_at (slrd_keep h1 o) l;obtain ⟨b2, y, z, rfl, ⟨s, I, rfl, N, G, f⟩, a⟩ := slrd_at (slrd_keep h2 o) l;have O := d 0 _ rfl;have L := a 0 _ rfl;rw [show k * (intsR).size + 0 = k from Nat.mul_one k] at O L;have H : Hid (∀ q, SlRd _ (wr.drewN q) C x) := fun q => slrd_keep g (fun _ _ => rfl);have r : Hid (∀ q, SlRd _ (wr.drewN q) s x) := fun q => slrd_keep f (fun _ _ => rfl);have D : Hid ((intsM).bk x ≤ 1152921504606846976) := by unfold Hid; have := sumbk_get (M := intsM) l; have := R.out; omega
   have E : Hid (wr = w.drewN n) := m;clear h1 h2 l g f d a m o;go_wp2_with fail
   go_quiet (first | (go_at_call 70; exact Calls.quiet_of (eqInt64S_rep _ _ x _ _ _ (H.out _) (r.out _) D.out)))
   go_wp2;go_roundw
   case rel => exact ⟨k + 1, by omega, by go_num, n + nq, by rw [E.out, World.drewN_drewN]⟩
   case measure => simp [intOf]; omega
  ·go_wp2;go_ret
   first | exact ⟨rfl, _, rfl⟩ | exact ⟨rfl, _, m⟩
theorem markInt64SS_nil (k : Int) (w : World) :
    Calls Tryz.prog 71 #[sL none 0 0, nI k] w fun e' w' => e' = .returned (nI k) ∧ w' = w := by
 go_enter Tryz.func71, Tryz.ntmps71;go_wp2;refine wp_loop_rounds 1 ?_;rw [rounds_succ];go_wp2;go_ret
 exact ⟨rfl, rfl⟩
theorem markInt64SS_rep (S : Foot) (v : Value) (k : Int) (xs : List (List Int)) (w : World) (h0 : 0 ≤ k) (h1 : k ≤ 576460752303423488) (hm : slcnt intsM xs ≤ 576460752303423488) (hln : xs.length ≤ 576460752303423488) (h : (slR 28 intsR).own w S [v] xs) :
    Calls Tryz.prog 71 #[v, nI k] w fun e' f => e' = .returned (nI (k + slcnt intsM xs)) ∧ (slR 28 intsR).own f S [v] (slmark intsM k xs) ∧ Chg S w f := by
 rcases slown_form h with ⟨rfl, rfl⟩ | ⟨G, n, rfl, hG⟩
 ·exact (markInt64SS_nil k w).mono fun e f ⟨e1, e2⟩ => ⟨by simpa [slcnt] using e1, by rw [e2]; exact h, by rw [e2]; exact Chg.refl _ _⟩
 go_enter Tryz.func71, Tryz.ntmps71;go_wp2;go_loopw [1, 5] (fun q i wr => ∃ j : Nat, j ≤ xs.length ∧ i = nI j ∧ q = nI (k + slcnt intsM (xs.take j)) ∧ (slR 28 intsR).own wr S [sL (some ⟨G, 0, none⟩) xs.length n] (pmark intsM k xs j) ∧ Chg S w wr)
  (fun _ i _ => xs.length - (intOf i).toNat)
 case atStart => exact ⟨0, Nat.zero_le _, rfl, by simp [slcnt], by rw [pmark_zero]; exact h, Chg.refl _ _⟩
 case round =>
  obtain ⟨j, hj, rfl, rfl, y, U⟩ := hrel;by_cases F : j < xs.length
  ·have bA : (j : Int) < (xs.length : Int) := by omega
   obtain ⟨x, o⟩ : ∃ x, xs[j]? = some x := ⟨_, List.getElem?_eq_getElem F⟩;have HT : Hid (slcnt intsM (xs.take (j + 1)) = slcnt intsM (xs.take j) + slcnt intM x) := slcnt_step (M := intsM) o;have hT : slcnt intsM (xs.take j) + slcnt intM x ≤ slcnt intsM xs := slcnt_get (M := intsM) o;have r : Hid _ := pmark_step (M := intsM) (k := k) o;obtain ⟨g, X, p, Sj, T, c, Y, N, a, l, s, d, K, s2, B, O, s5, b⟩ := slown_focus y (pmark_at o);obtain ⟨vj, rfl⟩ : ∃ vj, c = [vj] := List.length_eq_one_iff.1 s;obtain ⟨L, A, rfl⟩ := slown_val d;simp only [Value.slice.injEq, Option.some.injEq, Addr.mk.injEq, and_true] at Y;obtain ⟨rfl, z⟩ := Y;clear z s;have q1 : wr.cell? ⟨G, j, none⟩ = some (sL L x.length A) := by
    rw [cell_of_row wr G j p _ (0, 0) a];have := l 0 Nat.zero_lt_one;rwa [show j * (intsR).size + 0 = j from Nat.mul_one j] at this
   have HO : Hid _ := d;have Z : Hid (∀ f, Chg Sj wr f → (intsR).own f Sj [sL L x.length A] (slmark intM (k + slcnt intsM (xs.take j)) x) → (slR 28 intsR).own f S [sL (some ⟨G, 0, none⟩) xs.length n] (pmark intsM k xs (j + 1))) := by
    intro f V C;rw [← r.out];have H : G < wr.heap.size := (ltH a);exact b f p [sL L x.length A] _ Sj S (by rw [V.block G H O]; exact a) rfl (fun _ _ => rfl) l (V.keeps B.symm) C B O N K s2
   have R : Hid _ := K;clear o y d b l a s2 B O s5 K r h;generalize slcnt intsM (xs.take j) = T at HT hT Z ⊢;go_wp2_with (go_at_call 73; refine (markInt64S_rep Sj _ _ x _ (by omega) (by omega) (by omega) HO.out).mono ?_; rintro e f ⟨rfl, m, I⟩)
   have D := Z.out f I m;have J := U.trans (I.mono R.out);clear m I;go_roundw
   case rel => exact ⟨j + 1, by omega, by go_num, by rw [HT.out]; go_num, D, J⟩
   case measure => simp [intOf]; omega
  ·have E : j = xs.length := by omega
   subst E;rw [List.take_length];rw [pmark_all] at y;go_wp2;go_ret
   exact ⟨rfl, y, U⟩
theorem heldInt64SS_rep (a : Option Addr) (cap : Nat) (k : Int) (xs : List (List Int)) (w : World) (h0 : 0 ≤ k) (h1 : k ≤ 576460752303423488) (hm : slcnt intsM xs ≤ 576460752303423488) (hln : xs.length ≤ 576460752303423488) (h : SlRd intsR w a (slmark intsM k xs)) :
    Calls Tryz.prog 74 #[sL a xs.length cap, nI k] w fun e' r => e' = .returned (nI (k + slcnt intsM xs)) ∧ r = w := by
 go_enter Tryz.func74, Tryz.ntmps74;go_wp2;go_loop [1, 5] (fun q i => ∃ j : Nat, j ≤ xs.length ∧ i = nI j ∧ q = nI (k + slcnt intsM (xs.take j))) (fun _ i => xs.length - (intOf i).toNat)
 case atStart => exact ⟨0, Nat.zero_le _, rfl, by simp [slcnt]⟩
 case round =>
  obtain ⟨j, hj, rfl, rfl⟩ := hrel;by_cases n : j < xs.length
  ·have v : (j : Int) < (xs.length : Int) := by omega
   obtain ⟨x, l⟩ : ∃ x, xs[j]? = some x := ⟨_, List.getElem?_eq_getElem n⟩;obtain ⟨b, C, c, rfl, ⟨A, cj, rfl, o, z, g⟩, d⟩ := slrd_at h (slmark_at (M := intsM) (k := k) l);have s := d 0 _ rfl;rw [show j * (intsR).size + 0 = j from Nat.mul_one j] at s;have f : ((intsM).mE (k + slcnt intsM (xs.take j)) x).length = x.length := slmark_len _ _ _;rw [f] at s;have p : Hid (SlRd _ w A (slmark intM (k + slcnt intsM (xs.take j)) x)) := g;have y : Hid (slcnt intsM (xs.take (j + 1)) = slcnt intsM (xs.take j) + slcnt intM x) := slcnt_step (M := intsM) l;have B : slcnt intsM (xs.take j) + slcnt intM x ≤ slcnt intsM xs := slcnt_get (M := intsM) l;clear l g d h f o;generalize slcnt intsM (xs.take j) = T at y B p ⊢;have hn : ¬ (k + (T : Int) + ((slcnt intM x : Nat) : Int) < 0) := by omega
   go_wp2_with (go_at_call 76; refine (heldInt64S_rep _ _ _ x _ (by omega) (by omega) (by omega) p.out).mono ?_; rintro e r ⟨rfl, rfl⟩)
   go_round
   case rel => exact ⟨j + 1, by omega, by go_num, by rw [y.out]; go_num⟩
   case measure => simp [intOf]; omega
  ·have m : j = xs.length := by omega
   subst m;rw [List.take_length];go_wp2;go_ret
   exact ⟨rfl, rfl⟩
end Go.Proofs.YtmaopldahnejdaaGreatDoor
