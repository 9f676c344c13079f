import Derived.Test.YtdamokokcdcedaaGreatDoorG00Box
import Derived.Maps.OwnSet
import Derived.DeepKeys4
import Derived.WideKeyEntry
import Derived.Orders
import Derived.Test.YtdamokokcdcedaaGreatDoorProg
import Derived.RowKit
import Derived.Deep.CutBlock
import Derived.OwnWalk
import Derived.Test.YtdamokokcdcedaaGreatDoorCards
import Derived.Test.YtdamokokcdcedaaGreatDoorTie
import Derived.ChangeSame
import Derived.ChangeVars
import Derived.JoinedOf
import Derived.LaidLaws
import Derived.Deep.Strs
import Derived.Test.YtdamokokcdcedaaGreatDoorG03
import Derived.LaidEql
import Derived.Stop.Asserts
import Derived.RowKitTokens
namespace Go.Proofs.YtdamokokcdcedaaGreatDoor
open Go.ChangeShapes Go.WideShapes Go.RowKit
open Go.Maps (Keyed has_put_same has_put_other atKey_put_same atKey_put_other)
set_option linter.unusedVariables false
def MapV (P : Program) (k e : TypeId) (w : World) (b n : Nat) (f : Value → Option Int) : Prop :=
 ∃ D : DataW Unit, w.ownsMap P k (plainElem P e) b n D ∧ ∀ v l, keyOf P k v = some l → Maps.has D l = (f v).isSome ∧ D.atKey l (.lit (.int .i64 0)) = .lit (.int .i64 ((f v).getD 0))
open Classical in
noncomputable def putV (f : Value → Option Int) (v : Value) (x : Int) : Value → Option Int := fun u => if u = v then some x else f u
theorem putV_same (f : Value → Option Int) (v : Value) (x : Int) : putV f v x v = some x := by simp [putV]
theorem putV_other (f : Value → Option Int) {v u : Value} (x : Int) (h : u ≠ v) : putV f v x u = f u := by simp [putV, h]
section
variable {P : Program} {k e t : TypeId} {w : World} {b n : Nat} {f : Value → Option Int}
theorem MapV.lt (h : MapV P k e w b n f) : b < w.heap.size := by obtain ⟨D, h, _⟩ := h; exact h.lt
theorem MapV.kept {w' : World} {row : Option Nat} (h : MapV P k e w b n f) (hg : w.grownBy w' row) (hne : some b ≠ row) : MapV P k e w' b n f := by
 obtain ⟨D, h, a⟩ := h; exact ⟨D, h.kept hg hne, a⟩
theorem MapV.alloc (h : MapV P k e w b n f) (o : Obj) : MapV P k e (w.alloc o) b n f := by obtain ⟨D, h, a⟩ := h; exact ⟨D, h.alloc o, a⟩
theorem MapV.drewN (h : MapV P k e w b n f) (q : Nat) : MapV P k e (w.drewN q) b n f := by
 obtain ⟨D, ⟨g, a, d, r⟩, c⟩ := h; exact ⟨D, ⟨g, a, d, r⟩, c⟩
theorem MapV.block {w' : World} (h : MapV P k e w b n f) (hb : w'.heap[b]? = w.heap[b]?) : MapV P k e w' b n f := by
 obtain ⟨D, ⟨g, a, c, r⟩, d⟩ := h; exact ⟨D, ⟨g, a, by rw [hb]; exact c, r⟩, d⟩
theorem MapV.below {w' : World} {m : Nat} (h : MapV P k e w b n f) (hB : Below m w w') (hm : b < m) : MapV P k e w' b n f := h.block (hB.block b hm)
theorem MapV.mono {n' : Nat} (h : MapV P k e w b n f) (hn : n ≤ n') : MapV P k e w b n' f := by obtain ⟨D, h, a⟩ := h; exact ⟨D, h.mono hn, a⟩
theorem MapV.congr {g : Value → Option Int} (h : MapV P k e w b n f) (hfg : ∀ v l, keyOf P k v = some l → f v = g v) : MapV P k e w b n g := by
 obtain ⟨D, h, a⟩ := h;exact ⟨D, h, fun v l hl => by rw [← hfg v l hl]; exact a v l hl⟩
theorem MapV.look (h : MapV P k e w b n f) (K : Keyed P k) (ht : P.underlying t = some (.map k e)) (he : P.underlying e = some (.int .i64)) (hz : (zeroValue e).run P w = .ok (nI 0) w) {v : Value} {l : Lit} (hl : keyOf P k v = some l) :
    (Instr.lookup t (.map (some b)) v false).run P w = .ok (nI ((f v).getD 0)) w := by
 obtain ⟨D, h, g⟩ := h;obtain ⟨c, d, a, _⟩ := h.lookup_int K ht he hz hl;rw [(g v l hl).2] at a;simp only [DataW.lit.injEq, Lit.int.injEq, true_and] at a;rw [d, a]
theorem MapV.put (h : MapV P k e w b n f) (K : Keyed P k) (ht : P.underlying t = some (.map k e)) (he : P.underlying e = some (.int .i64)) (hn : n < maxLen) {v : Value} {l : Lit} (hl : keyOf P k v = some l) {x : Int} (hx : (Lit.int .i64 x).wf = true) :
    ∃ d, (Instr.mapUpdate t (.map (some b)) v (nI x)).run P w = .ok () d ∧ MapV P k e d b (n + 1) (putV f v x) ∧ w.grownBy d (some b) := by
 obtain ⟨D, h, i⟩ := h;obtain ⟨d, c, o, j⟩ := h.update K ht hn hl (plainElem_int he hx);refine ⟨d, c, ⟨_, o, fun u l' hl' => ?_⟩, j⟩;by_cases g : u = v
 ·subst g;rw [hl] at hl';cases hl'
  rw [putV_same, has_put_same h.isMap (K.key hl), atKey_put_same h.isMap (K.key hl)];exact ⟨rfl, rfl⟩
 ·have a : l' ≠ l := fun e => g (K.inj hl' (e ▸ hl));rw [putV_other f x g, has_put_other a, atKey_put_other a];exact i u l' hl'
theorem MapV.wiped (h : MapV P k e w b n f) (ht : P.underlying t = some (.map k e)) (ty : TypeId) :
    ∃ w', (Builtin.clear_ #[t] ty #[.map (some b)]).run P w = .ok (.tuple #[]) w' ∧ MapV P k e w' b n (fun _ => none) ∧ w.grownBy w' (some b) := by
 obtain ⟨D, ⟨es, a, c, F, hs, rfl⟩, hf⟩ := h;refine ⟨ChangeMaps.setBlock w b (.map #[] a), ?_, ⟨.map [], ⟨#[], a, ChangeMaps.heap_setBlock_same c _, ⟨by simp, MapKept.stamped_empty a, by simp⟩, by simp, rfl⟩, fun v l _ => ⟨rfl, rfl⟩⟩, ⟨rfl, rfl, rfl, by simp [ChangeMaps.setBlock], fun i _ hi => ChangeMaps.heap_setBlock_other c _ (fun e => hi (by rw [e]))⟩⟩;simp [Builtin.clear_, run_underlying ht, MapKept.run_getObj_map c, MapKept.run_setObj_map _ c, Result.andThen, ChangeMaps.setBlock]
theorem MapV.entry (h : MapV P k e w b n f) (KL : WideMaps.KeyLaw P k) (ht : P.underlying t = some (.map k e)) (he : P.underlying e = some (.int .i64)) (hz : ∀ u : World, (zeroValue e).run P u = .ok (nI 0) u) (hn : n < maxLen) {v : Value} {l : Lit} (hl : keyOf P k v = some l) :
    ∃ (R : Value) (J : Nat) (w1 : World), (Instr.mapEntry t (.map (some b)) v).run P w = .ok (.tuple #[R, goInt J]) w1 ∧ w.grownBy w1 (some b) ∧ (Instr.lookup t (.map (some b)) v false).run P w1 = .ok (nI ((f v).getD 0)) w1 ∧
     ∀ x : Int, (Lit.int .i64 x).wf = true → ∃ w2, (Instr.entryStore t (.map (some b)) (goInt J) (nI x)).run P w1 = .ok () w2 ∧ MapV P k e w2 b (n + 1) (putV f v x) ∧ w.grownBy w2 (some b) := by
 have K := Keyed.of_law KL;have L := h;obtain ⟨D, ⟨r, c, o, F, hs, hD⟩, hf⟩ := h;obtain ⟨R, J, q, d, O, _, X⟩ := WideElems.entry_then_store KL ht hz o F hl;have B : (ChangeMaps.setBlock w b (.map q d)).heap[b]? = some (.map q d) := ChangeMaps.heap_setBlock_same o _;have Y : w.grownBy (ChangeMaps.setBlock w b (.map q d)) (some b) := ⟨rfl, rfl, rfl, by simp [ChangeMaps.setBlock], fun i _ hi => ChangeMaps.heap_setBlock_other o _ (fun e => hi (by rw [e]))⟩;refine ⟨R, J, _, O, Y, ?_, fun x hx => ?_⟩
 ·-- the world behind the entry is a world behind a store of what was there, but for the element: looked up by the store's own law
  obtain ⟨H, m, g, p⟩ := X _ (nI ((f v).getD 0)) B;have Z := K.find w hl r.toList F.keys;rcases Z with ⟨E, M⟩ | ⟨j, A, E, M, V⟩
  ·have y : (Instr.mapEntry t (.map (some b)) v).run P w = .ok (.tuple #[nI 0, goInt c]) (ChangeMaps.setBlock w b (.map (r.push ⟨v, nI 0, c⟩) (c + 1))) := by
     simp [Instr.mapEntry, run_underlying ht, MapKept.run_getObj_map o, K.check w false hl, E, hz, MapKept.run_setObj_map _ o, Result.andThen, ChangeMaps.setBlock]
   rw [O] at y;simp only [Result.ok.injEq] at y;rw [y.2];have G := L.put K ht he hn hl (x := 0) (by decide);obtain ⟨S, N, U, _⟩ := G;have C : (Instr.mapUpdate t (.map (some b)) v (nI 0)).run P w = .ok () (ChangeMaps.setBlock w b (.map (r.push ⟨v, nI 0, c⟩) (c + 1))) := by
    simp [Instr.mapUpdate, run_underlying ht, MapKept.run_getObj_map o, K.check w false hl, E, MapKept.run_setObj_map _ o, Result.andThen, ChangeMaps.setBlock]
   rw [N] at C;simp only [Result.ok.injEq, true_and] at C;rw [← C];have I := U.look K ht he (hz _) hl;rw [putV_same] at I;have T := L.look K ht he (hz _) hl;have z : (Instr.lookup t (.map (some b)) v false).run P w = .ok (nI 0) w := by
    simp [Instr.lookup, run_underlying ht, MapKept.run_getObj_map o, K.check w _ hl, E, hz, Result.andThen]
   rw [T] at z;simp only [Result.ok.injEq, Value.int.injEq, true_and, and_true] at z;rw [z];simpa using I
  ·have hj : r[j]? = some A := by simpa using M
   have s : r.modify j (fun e => { e with key := v }) = r := by
    apply Array.ext'
    rw [Array.toList_modify, ChangeMaps.modify_eq_set _ _ _ _ M];have : ({ A with key := v } : MapEntry) = A := by rw [← V]
    rw [this];exact WideElems.set_self _ _ _ M
   have y : (Instr.mapEntry t (.map (some b)) v).run P w = .ok (.tuple #[A.val, goInt A.born]) (ChangeMaps.setBlock w b (.map r c)) := by
    simp [Instr.mapEntry, run_underlying ht, MapKept.run_getObj_map o, K.check w false hl, E, hj, V, K.stays w hl, s, MapKept.run_setObj_map _ o, Result.andThen, ChangeMaps.setBlock]
   rw [O] at y;simp only [Result.ok.injEq] at y;rw [y.2];refine (L.block ?_).look K ht he (hz _) hl;rw [ChangeMaps.heap_setBlock_same o _, o]
 ·obtain ⟨H, m, g, p⟩ := X _ (nI x) B;obtain ⟨S, N, U, hg⟩ := L.put K ht he hn hl hx;rw [N] at p;simp only [Result.ok.injEq, true_and] at p;have C : ChangeMaps.setBlock (ChangeMaps.setBlock w b (.map q d)) b (.map H m) = S := by rw [p]; simp [ChangeMaps.setBlock]
  rw [C] at g;exact ⟨S, g, U, hg⟩
variable {ops : Array Oper} {rest : List Oper} {o : Oper} {a : Act} {Q : Exit → Act → World → Prop}
theorem wpList_clear_V (hg : o.guard = none) (m : Operand) (t : TypeId) (hop : o.op = Op.call { callee := Callee.builtin Builtin.clear, args := #[m], argTypes := #[t] })
    (h : MapV P k e w b n f) (ht : P.underlying t = some (.map k e)) (hm : a.eval m = .map (some b))
    (hK : ∀ d, MapV P k e d b n (fun _ => none) → w.grownBy d (some b) → wpList P ops Q rest (a.put o.dst (.tuple #[])) d) :
    wpList P ops Q (o :: rest) a w := by
 refine wpList_plain hg fun K' hK' => ?_;obtain ⟨d, c, i, g⟩ := h.wiped ht o.type;unfold Oper.wp;simp [execOp, hop, resolve, invoke, builtin, hm, c, Result.andThen]
 exact hK' _ _ (hK d i g)
end
#print axioms MapV.look
#print axioms wpList_clear_V
open Go.Maps (Keyed)
def holdC : Array Value := #[.bool false, .bool false, .bool false, .bool true, .bool false, .bool false, .bool true, .bool true, .bool false, .bool true, .bool true, .bool true]
def HoldT (w : World) : Prop := ∃ t fz, w.heap[0]? = some (.cells holdC t fz)
theorem HoldT.lt {w : World} (h : HoldT w) : 0 < w.heap.size := by obtain ⟨t, fz, h⟩ := h; exact (ltH h)
theorem HoldT.below {w w' : World} {m : Nat} (h : HoldT w) (hB : Below m w w') (hm : 0 < m) : HoldT w' := by
 obtain ⟨t, a, h⟩ := h;exact ⟨t, a, (hB.block 0 hm).trans h⟩
theorem HoldT.goes {w w' : World} (h : HoldT w) (hB : Bl w w') : HoldT w' := h.below hB h.lt
theorem HoldT.grown {w w' : World} {b : Nat} (h : HoldT w) (hg : w.grownBy w' (some b)) (hb : 0 < b) : HoldT w' := by
 have c := h.lt;obtain ⟨t, a, h⟩ := h;exact ⟨t, a, (hg.block 0 c (by simp; omega)).trans h⟩
theorem HoldT.drewN {w : World} (h : HoldT w) (q : Nat) : HoldT (w.drewN q) := h
theorem HoldT.cells {w : World} (h : HoldT w) :
    w.cell? ⟨0, 0, none⟩ = some (.bool false) ∧ w.cell? ⟨0, 1, none⟩ = some (.bool false) ∧ w.cell? ⟨0, 2, none⟩ = some (.bool false) ∧
    w.cell? ⟨0, 3, none⟩ = some (.bool true) ∧ w.cell? ⟨0, 4, none⟩ = some (.bool false) ∧ w.cell? ⟨0, 5, none⟩ = some (.bool false) ∧
    w.cell? ⟨0, 6, none⟩ = some (.bool true) ∧ w.cell? ⟨0, 7, none⟩ = some (.bool true) ∧ w.cell? ⟨0, 8, none⟩ = some (.bool false) ∧
    w.cell? ⟨0, 9, none⟩ = some (.bool true) ∧ w.cell? ⟨0, 10, none⟩ = some (.bool true) ∧ w.cell? ⟨0, 11, none⟩ = some (.bool true) := by
 obtain ⟨t, fz, h⟩ := h;refine ⟨?_, ?_, ?_, ?_, ?_, ?_, ?_, ?_, ?_, ?_, ?_, ?_⟩ <;> (rw [cell_of_row w 0 _ _ _ _ h]; rfl)
abbrev hk (a b c : Bool) : Value := .agg #[.bool a, .bool b, .bool c]
theorem state4 {s : Int} (h : betw s 0 3 = true) : s = 0 ∨ s = 1 ∨ s = 2 ∨ s = 3 := by simp [betw] at h; omega
abbrev holdName : String := "loop.example/g00342/impl.holdings"
abbrev holdD {H : Type} : DataW H := .agg [.agg [.lit (.bool false), .lit (.bool false), .lit (.bool false)], .agg [.lit (.bool true), .lit (.bool false), .lit (.bool false)], .agg [.lit (.bool true), .lit (.bool true), .lit (.bool false)], .agg [.lit (.bool true), .lit (.bool true), .lit (.bool true)]]
abbrev holdLT : List (String × DataW Unit) := [(holdName, Rows.laid_loop_example_g00342_impl_holdings)]
theorem gHold : Tryz.prog.globalNamed holdName = some 0 := by kernel_rfl
theorem gHoldType : (Tryz.prog.globals[0]?).map (·.type) = some 154 := by kernel_rfl
theorem hold_reads {H : Type} (enc : TypeId × Value → H) (W : World) (sp : Nat → Bool) : DataW.trod enc Tryz.prog W 0 sp true 4 154 holdC.toList = some (holdD, []) := by kernel_rfl
theorem bool_of_trod {H : Type} {enc : TypeId × Value → H} {P : Program} {w : World} {base : Nat} {sp : Nat → Bool} {held : Bool} {fuel : Nat} {t : TypeId} {c : Value} {y : DataW H × List MemPlace}
    (ht : P.underlying t = some .bool) (h : DataW.trod enc P w base sp held fuel t [c] = some y) : ∃ b, c = .bool b ∧ y = (.lit (.bool b), []) := by
 cases fuel with
 | zero => simp [DataW.trod] at h
 | succ fuel =>
  cases c <;> simp [DataW.trod, ht] at h
  exact ⟨_, rfl, h.symm⟩
theorem bools_of_trod {H : Type} {enc : TypeId × Value → H} {P : Program} {w : World} {base : Nat} {sp : Nat → Bool} {held : Bool} {fuel : Nat} {t u : TypeId} {f0 f1 f2 : Field} {x y z : Value} {r : DataW H × List MemPlace} {a b c : Bool}
    (ht : P.underlying t = some (.struct #[f0, f1, f2])) (hu : P.underlying u = some .bool) (h0 : f0.type = u) (h1 : f1.type = u) (h2 : f2.type = u) (o0 : f0.offset = 0) (o1 : f1.offset = 1) (o2 : f2.offset = 2) (hc : P.cellsOf u = 1)
    (h : DataW.trod enc P w base sp held fuel t [x, y, z] = some r) (hr : r.1 = .agg [.lit (.bool a), .lit (.bool b), .lit (.bool c)]) : x = .bool a ∧ y = .bool b ∧ z = .bool c := by
 obtain ⟨y0, y1, y2, n, rfl, _, d, f, g⟩ := Deep.trod_struct3 ht h;rw [h0, o0, hc] at d;rw [h1, o1, hc] at f;rw [h2, o2, hc] at g;obtain ⟨p0, rfl, rfl⟩ := bool_of_trod hu d;obtain ⟨p1, rfl, rfl⟩ := bool_of_trod hu f;obtain ⟨p2, rfl, rfl⟩ := bool_of_trod hu g;simp at hr
 obtain ⟨rfl, rfl, rfl⟩ := hr;exact ⟨rfl, rfl, rfl⟩
theorem table_of_trod {H : Type} {enc : TypeId × Value → H} {P : Program} {w : World} {base : Nat} {sp : Nat → Bool} {held : Bool} {fuel : Nat} {T t u : TypeId} {f0 f1 f2 : Field} {cs : List Value} {p : List MemPlace}
    (hT : P.underlying T = some (.array 4 t)) (hcT : P.cellsOf T = 12) (hct : P.cellsOf t = 3)
    (ht : P.underlying t = some (.struct #[f0, f1, f2])) (hu : P.underlying u = some .bool) (h0 : f0.type = u) (h1 : f1.type = u) (h2 : f2.type = u) (o0 : f0.offset = 0) (o1 : f1.offset = 1) (o2 : f2.offset = 2) (hc : P.cellsOf u = 1)
    (h : DataW.trod enc P w base sp held fuel T cs = some (holdD, p)) : cs = holdC.toList := by
 cases fuel with
 | zero => simp [DataW.trod] at h
 | succ fuel =>
  simp only [DataW.trod, hT, hcT, hct] at h;split at h
  ·rename_i hl
   obtain ⟨l, j, k, i, f, m, d, g, n, c, a, b, rfl⟩ : ∃ l j k i f m d g n c a b, cs = [l, j, k, i, f, m, d, g, n, c, a, b] := by
    match cs, hl with
    | [l, j, k, i, f, m, d, g, n, c, a, b], _ => exact ⟨l, j, k, i, f, m, d, g, n, c, a, b, rfl⟩
   rw [show List.range 4 = [0, 1, 2, 3] from rfl] at h;simp only [Option.map_eq_some_iff, List.mapM_cons, List.mapM_nil, Option.bind_eq_bind, Option.bind_eq_some_iff, Option.pure_def, Option.some.injEq] at h;obtain ⟨xs, ⟨y0, z, _, ⟨y1, s, _, ⟨y2, y, _, ⟨y3, v, _, rfl, rfl⟩, rfl⟩, rfl⟩, rfl⟩, o⟩ := h;simp only [List.map_cons, List.map_nil, Prod.mk.injEq, DataW.agg.injEq, List.cons.injEq, and_true] at o;obtain ⟨⟨q, A, r, B⟩, _⟩ := o;obtain ⟨rfl, rfl, rfl⟩ := bools_of_trod ht hu h0 h1 h2 o0 o1 o2 hc z q;obtain ⟨rfl, rfl, rfl⟩ := bools_of_trod ht hu h0 h1 h2 o0 o1 o2 hc s A;obtain ⟨rfl, rfl, rfl⟩ := bools_of_trod ht hu h0 h1 h2 o0 o1 o2 hc y r;obtain ⟨rfl, rfl, rfl⟩ := bools_of_trod ht hu h0 h1 h2 o0 o1 o2 hc v B;rfl
  ·cases h
theorem hold_var {W : World} (h : laidMet Tryz.prog holdLT W) : W.var? Tryz.prog holdName = some holdC := by
 obtain ⟨ps, ⟨g, t, f, b, p, q, i, d, a, c, _, _⟩, _⟩ := h;obtain rfl := Option.some.inj (gHold.symm.trans i);obtain rfl := Option.some.inj (gHoldType.symm.trans d);rw [a];have := table_of_trod Tryz.underlying154 (by kernel_rfl) (by kernel_rfl) Tryz.underlying153 Tryz.underlying4 rfl rfl rfl rfl rfl rfl (by kernel_rfl) c;obtain ⟨l⟩ := f;rw [show l = holdC.toList from this]
theorem hold_of_var {W : World} (h : W.var? Tryz.prog holdName = some holdC) : HoldT W := by
 simp only [World.var?, gHold, Option.bind_some] at h;split at h
 ·rename_i cs t fz e
  cases h;exact ⟨t, fz, e⟩
 ·cases h
theorem var_below {W W' : World} (h : W.var? Tryz.prog holdName = some holdC) (hB : Bl W W') : W'.var? Tryz.prog holdName = some holdC := by
 obtain ⟨t, fz, e⟩ := (hold_of_var h).goes hB;simp only [World.var?, gHold, Option.bind_some, e]
theorem vars_hold {H : Type} (enc : TypeId × Value → H) {W : World} (sp : Nat → Bool) (h : W.var? Tryz.prog holdName = some holdC) : DataW.TrodVars enc Tryz.prog W sp [holdName] [holdD] (MemPlace.row ⟨0, 0, none⟩ holdC.size ++ [] ++ []) :=
 ⟨0, 154, holdC, 4, [], [], gHold, gHoldType, h, hold_reads enc W sp, rfl, rfl⟩
theorem vars_one {H : Type} {enc : TypeId × Value → H} {W : World} {gs : List (DataW H)} {q : List MemPlace} (hV : DataW.TrodVars enc Tryz.prog W (fun _ => true) [holdName] gs q) (h : W.var? Tryz.prog holdName = some holdC) : gs = [holdD] := by
 obtain ⟨g, t, i, a, d, p', rfl, j, f, b, c, rfl⟩ := trodVars_one hV;obtain rfl := Option.some.inj (gHold.symm.trans j);obtain rfl := Option.some.inj (gHoldType.symm.trans f);obtain rfl : i = holdC := Option.some.inj (b.symm.trans h);obtain ⟨rfl, rfl⟩ := DataW.Trod.unique (v := .agg holdC) ⟨a, c⟩ ⟨4, hold_reads enc W _⟩;rfl
open Go.RowKit Go.Extern.Stop Go.Stop Go.Extern
abbrev refV (c : Int) : Value := .iface 259 (.int .i64 c)
abbrev fltV (n c : Int) : Value := .iface 284 (.agg #[.int .i64 n, .iface 259 (.int .i64 c)])
theorem er_typeOf (v : Value) (w : World) : (Extern.ReflectliteType.typeOf #[.iface 259 v]).run Tryz.prog w = .ok (.iface 295 (.agg #[.pointer (some ⟨2, 259, none⟩)])) w := by kernel_rfl
theorem er_typeOfF (v : Value) (w : World) : (Extern.ReflectliteType.typeOf #[.iface 284 v]).run Tryz.prog w = .ok (.iface 295 (.agg #[.pointer (some ⟨2, 284, none⟩)])) w := by kernel_rfl
def compF : Array Value → Sem Value := Extern.ReflectliteType.method fun t => do Extern.Rtype.noPackHeld "Comparable" t; pure (.bool (← typeInfo t).comparable)
theorem er_comp (w : World) : (compF #[.agg #[.pointer (some ⟨2, 259, none⟩)]]).run Tryz.prog w = .ok (.bool true) w := by kernel_rfl
theorem er_mComp (v : Value) (w : World) : (Go.method 444 295 v "Comparable").run Tryz.prog w = .ok (321, v) w := by kernel_rfl
theorem er_isComp : (Tryz.prog.info? 259).map (·.comparable) = some true := by kernel_rfl
theorem er_noIsR (v : Value) (xT : TypeId) (w : World) : (Instr.typeAssert (.iface 259 v) xT 310 true).run Tryz.prog w = .ok (.tuple #[.nilIface, .bool false]) w := run_typeAssert_lacksB Tryz.underlying310 (by kernel_rfl) (by kernel_rfl) v xT w
theorem er_noIsF (v : Value) (xT : TypeId) (w : World) : (Instr.typeAssert (.iface 284 v) xT 310 true).run Tryz.prog w = .ok (.tuple #[.nilIface, .bool false]) w := run_typeAssert_lacksB Tryz.underlying310 (by kernel_rfl) (by kernel_rfl) v xT w
theorem er_noUnR (v : Value) (xT : TypeId) (w : World) : (Instr.typeAssert (.iface 259 v) xT 303 true).run Tryz.prog w = .ok (.tuple #[.nilIface, .bool false]) w := run_typeAssert_lacksB Tryz.underlying303 (by kernel_rfl) (by kernel_rfl) v xT w
theorem er_noUnsR (v : Value) (xT : TypeId) (w : World) : (Instr.typeAssert (.iface 259 v) xT 305 true).run Tryz.prog w = .ok (.tuple #[.nilIface, .bool false]) w := run_typeAssert_lacksB Tryz.underlying305 (by kernel_rfl) (by kernel_rfl) v xT w
theorem er_hasUnF (v : Value) (xT : TypeId) (w : World) : (Instr.typeAssert (.iface 284 v) xT 303 true).run Tryz.prog w = .ok (.tuple #[.iface 284 v, .bool true]) w := run_typeAssert_hasB Tryz.underlying303 (by kernel_rfl) v xT w
theorem er_mUn (v : Value) (w : World) : (Go.method 444 284 v "Unwrap").run Tryz.prog w = .ok (318, v) w := by kernel_rfl
theorem er_eqR (a b : Int) (w : World) : (binOp .eql 242 (.iface 259 (nI a)) (.iface 259 (nI b))).run Tryz.prog w = .ok (.bool (a == b)) w := by
 obtain ⟨i, f, c⟩ := Option.map_eq_some_iff.1 er_isComp;have h : ∀ d : Nat, (Op.equalIn (d + 2) 242 (.iface 259 (nI a)) (.iface 259 (nI b))).run Tryz.prog w = .ok (a == b) w := fun d => by
  simp [Op.equalIn, run_underlying Tryz.underlying242, run_underlying Tryz.underlying259, typeInfo, f, c]
 simp only [binOp];simp [Op.equal, Op.maxDepth, h 9998]
theorem unwrap_any (n c : Int) (w : World) : Calls Tryz.prog 318 #[.agg #[nI n, .iface 259 (nI c)]] w fun e w' => e = .returned (.iface 259 (nI c)) ∧ Bl w w' := by
 have a := box_below w (.cells #[nI n, .iface 259 (nI c)] 284);go_enter Tryz.func318, Tryz.ntmps318;go_wp2;go_ret
 exact ⟨rfl, a⟩
set_option maxHeartbeats 4000000 in
theorem isFault_any (n c d : Int) (w : World) : Calls Tryz.prog 270 #[.iface 284 (.agg #[nI n, .iface 259 (nI c)]), .iface 259 (nI d)] w fun e w' => e = .returned (.bool (c == d)) ∧ Bl w w' := by
 have h8 := @run_callFunc_extern Tryz.prog 279 _ Extern.ReflectliteType.typeOf Tryz.func279 (by kernel_rfl) (by kernel_rfl) (by kernel_rfl) (by kernel_rfl);have k := @run_callFunc_extern Tryz.prog 321 _ compF Tryz.func321 (by kernel_rfl) (by kernel_rfl) (by kernel_rfl) (by kernel_rfl);have tT := er_typeOf;have cT := er_comp;have mR := er_mComp;have n1 := er_noIsR;have n2 := er_noIsF;have n3 := er_noUnR;have n4 := er_noUnsR;have n5 := er_hasUnF;have mU := er_mUn;have j : ∀ W, (binOp .eql 242 (.iface 284 (.agg #[nI n, .iface 259 (nI c)])) (.iface 259 (nI d))).run Tryz.prog W = .ok (.bool false) W := fun W => run_eql_iface_types (P := Tryz.prog) 284 259 _ _ Tryz.underlying242 (by decide) W;have a : ∀ W, _ := fun W => er_eqR c d W;generalize i : (c == d) = q at a ⊢;go_enter Tryz.func270, Tryz.ntmps270;go_wp2_with go_in
 refine wp_loop_rounds 2 ?_;rw [rounds_succ];go_wp2_with (go_at_call 318; refine (unwrap_any _ _ _).mono ?_; rintro e g ⟨rfl, b⟩)
 rw [rounds_succ];have f : Hid (Bl w g) := b;clear b i;cases q
 ·go_wp2;go_ret
  exact ⟨rfl, f.out⟩
 ·go_wp2;go_ret
  exact ⟨rfl, f.out⟩
def Hold (w : World) : Prop := w.cell? ⟨1, 0, none⟩ = some (.iface 295 (.agg #[.pointer (some ⟨2, 242, none⟩)]))
theorem Hold.lt {w : World} (h : Hold w) : 1 < w.heap.size := cell_lt h
theorem Hold.goes {w W : World} (h : Hold w) (hb : Bl w W) : Hold W := cell_keep hb h h.lt
abbrev hanV (t : Nat) : Value := .iface 295 (.agg #[.pointer (some ⟨2, t, none⟩)])
abbrev valP (a : Addr) : Value := .agg #[.pointer (some ⟨2, 261, none⟩), .pointer (some a), .int .u64 150]
abbrev valO (a : Addr) : Obj := .cells #[.pointer (some ⟨2, 261, none⟩), .pointer (some a), .int .u64 150] 274
def typeF : Array Value → Sem Value := ReflectliteValue.methodAny (ReflectliteValue.valueError "reflectlite.Value.Type" 0) (fun t _ _ _ => ReflectliteType.toType t)
def kindF : Array Value → Sem Value := ReflectliteType.abiMethod fun t => do pure (.int .u8 (← Rtype.kind t))
def isNilF : Array Value → Sem Value := ReflectliteValue.method (ReflectliteValue.valueError "reflectlite.Value.IsNil" 0) ReflectliteValue.isNil
def elemTF : Array Value → Sem Value := ReflectliteType.method ReflectliteType.elem
def implF : Array Value → Sem Value := ReflectliteType.relation "Implements" ReflectliteType.implements_
def asgnF : Array Value → Sem Value := ReflectliteType.relation "AssignableTo" ReflectliteType.assignableTo
def elemVF : Array Value → Sem Value := ReflectliteValue.method (ReflectliteValue.valueError "reflectlite.Value.Elem" 0) ReflectliteValue.elem
def unpF : Array Value → Sem Value := fun args => ReflectliteValue.unpack (args.getD 0 (.tuple #[]))
def setF : Array Value → Sem Value := ReflectliteValue.set
theorem as_unpP (t : Addr) (w : World) : (unpF #[.iface 261 (.pointer (some t))]).run Tryz.prog w = .ok (valP ⟨w.heap.size, 0, none⟩) (w.alloc (.cells #[.pointer (some t)] 261)) := by kernel_rfl
theorem as_type (a : Addr) (w : World) : (typeF #[valP a]).run Tryz.prog w = .ok (hanV 261) w := by kernel_rfl
theorem as_mKind (h : Value) (w : World) : (Go.method 444 295 (.agg #[h]) "Kind").run Tryz.prog w = .ok (306, h) w := by kernel_rfl
theorem as_kindP (w : World) : (kindF #[.pointer (some ⟨2, 261, none⟩)]).run Tryz.prog w = .ok (.int .u8 22) w := by kernel_rfl
theorem as_kindE (w : World) : (kindF #[.pointer (some ⟨2, 259, none⟩)]).run Tryz.prog w = .ok (.int .u8 6) w := by kernel_rfl
theorem mt1 {m : Array Value → Sort _} (v : Value) (h1 : ∀ v, m #[v]) (h2 : ∀ a, m a) : ReflectliteValue.method.match_2 m #[v] h1 h2 = h1 v := rfl
theorem mt2 {m : Array Value → Sort _} (v x : Value) (h1 : ∀ v x, m #[v, x]) (h2 : ∀ a, m a) : ReflectliteValue.set.match_3 m #[v, x] h1 h2 = h1 v x := rfl
theorem as_partsP (a : Addr) (w : World) : (ReflectliteValue.parts (valP a)).run Tryz.prog w = .ok (some (261, a, 150)) w := by kernel_rfl
theorem as_isNil (a p : Addr) (W : World) (ha : W.cell? a = some (.pointer (some p))) : (isNilF #[valP a]).run Tryz.prog W = .ok (.bool false) W := by
 unfold isNilF ReflectliteValue.method;rw [mt1];simp only [Sem.run_bind, as_partsP, Result.andThen];simp [ReflectliteValue.isNil, loadVar, isAgg, underlying, Tryz.underlying261, ha, Result.andThen]
theorem as_mElem (h : Value) (w : World) : (Go.method 444 295 (.agg #[h]) "Elem").run Tryz.prog w = .ok (322, .agg #[h]) w := by kernel_rfl
theorem as_mImpl (h : Value) (w : World) : (Go.method 444 295 (.agg #[h]) "Implements").run Tryz.prog w = .ok (323, .agg #[h]) w := by kernel_rfl
theorem as_mAsgn (h : Value) (w : World) : (Go.method 444 295 (.agg #[h]) "AssignableTo").run Tryz.prog w = .ok (320, .agg #[h]) w := by kernel_rfl
theorem as_elemT (w : World) : (elemTF #[.agg #[.pointer (some ⟨2, 261, none⟩)]]).run Tryz.prog w = .ok (hanV 259) w := by kernel_rfl
theorem as_impl (w : World) : (implF #[.agg #[.pointer (some ⟨2, 259, none⟩)], hanV 242]).run Tryz.prog w = .ok (.bool true) w := by kernel_rfl
theorem as_asgnR (w : World) : (asgnF #[.agg #[.pointer (some ⟨2, 259, none⟩)], hanV 259]).run Tryz.prog w = .ok (.bool true) w := by kernel_rfl
theorem as_asgnF (w : World) : (asgnF #[.agg #[.pointer (some ⟨2, 284, none⟩)], hanV 259]).run Tryz.prog w = .ok (.bool false) w := by kernel_rfl
theorem as_unpE (c : Int) (w : World) : (unpF #[.iface 259 (nI c)]).run Tryz.prog w = .ok (.agg #[.pointer (some ⟨2, 259, none⟩), .pointer (some ⟨w.heap.size, 0, none⟩), .int .u64 134]) (w.alloc (.cells #[nI c] 259)) := by kernel_rfl
theorem as_elemOf (w : World) : (Rtype.elem? 261).run Tryz.prog w = .ok (some 259) w := by kernel_rfl
theorem as_mkE (p : Addr) (w : World) : (ReflectliteValue.mk 259 p ReflectliteValue.flagAddr).run Tryz.prog w = .ok (.agg #[.pointer (some ⟨2, 259, none⟩), .pointer (some p), .int .u64 390]) w := by kernel_rfl
theorem as_elemV (a p : Addr) (W : World) (ha : W.cell? a = some (.pointer (some p))) : (elemVF #[valP a]).run Tryz.prog W = .ok (.agg #[.pointer (some ⟨2, 259, none⟩), .pointer (some p), .int .u64 390]) W := by
 unfold elemVF ReflectliteValue.method;rw [mt1];simp only [Sem.run_bind, as_partsP, Result.andThen];simp [ReflectliteValue.elem, loadVar, isAgg, underlying, Tryz.underlying261, ha, Result.andThen, as_elemOf, as_mkE]
theorem as_partsEa (a : Addr) (w : World) : (ReflectliteValue.parts (.agg #[.pointer (some ⟨2, 259, none⟩), .pointer (some a), .int .u64 390])).run Tryz.prog w = .ok (some (259, a, 390)) w := by kernel_rfl
theorem as_partsE (a : Addr) (w : World) : (ReflectliteValue.parts (.agg #[.pointer (some ⟨2, 259, none⟩), .pointer (some a), .int .u64 134])).run Tryz.prog w = .ok (some (259, a, 134)) w := by kernel_rfl
theorem as_direct (w : World) : (Rtype.directlyAssignable 259 259).run Tryz.prog w = .ok true w := by kernel_rfl
theorem as_set (ta b : Addr) (c : Int) (old : Value) (W : World) (hb : W.cell? b = some (nI c)) (ht : W.cell? ta = some old) (hf : W.frozen? ta = false) :
    (setF #[.agg #[.pointer (some ⟨2, 259, none⟩), .pointer (some ta), .int .u64 390], .agg #[.pointer (some ⟨2, 259, none⟩), .pointer (some b), .int .u64 134]]).run Tryz.prog W = .ok (.tuple #[]) (W.setCell ta (nI c)) := by
 unfold setF ReflectliteValue.set;rw [mt2];simp only [Sem.run_bind, as_partsEa, as_partsE, Result.andThen];simp [ReflectliteValue.flagAddr, loadVar, isAgg, underlying, Tryz.underlying259, hb, Result.andThen, as_direct, storeVar, Value.cells, storeCells, Addr.add]
 rw [run_store Tryz.prog W ta _ _ (by rfl)];simp [ht, hf]
theorem as_noAsF (v : Value) (xT : TypeId) (w : World) : (Instr.typeAssert (.iface 284 v) xT 300 true).run Tryz.prog w = .ok (.tuple #[.nilIface, .bool false]) w := run_typeAssert_lacksB Tryz.underlying300 (by kernel_rfl) (by kernel_rfl) v xT w
end Go.Proofs.YtdamokokcdcedaaGreatDoor
