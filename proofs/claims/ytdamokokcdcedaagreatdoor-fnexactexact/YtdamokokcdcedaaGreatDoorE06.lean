import Derived.Test.YtdamokokcdcedaaGreatDoorE00Box
import Derived.Maps.OwnSet
import Derived.DeepKeys4
import Derived.WideKeyEntry
import Derived.Orders
import Derived.Test.YtdamokokcdcedaaGreatDoorProg
import Derived.RowKit
import Derived.Deep.CutBlock
import Derived.OwnWalk
import Derived.Test.YtdamokokcdcedaaGreatDoorE03
import Derived.Test.YtdamokokcdcedaaGreatDoorCards
import Derived.Test.YtdamokokcdcedaaGreatDoorTie
import Derived.ChangeSame
import Derived.ChangeVars
import Derived.JoinedOf
import Derived.LaidLaws
import Derived.Deep.Strs
namespace Go.Proofs.YtdamokokcdcedaaGreatDoor
open Go.ChangeShapes Go.WideShapes Go.RowKit
open Go.Maps (Keyed has_put_same has_put_other atKey_put_same atKey_put_other)
set_option linter.unusedVariables false
def MapV (P : Program) (k e : TypeId) (w : World) (b n : Nat) (f : Value → Option Int) : Prop :=
 ∃ D : DataW Unit, w.ownsMap P k (plainElem P e) b n D ∧ ∀ v l, keyOf P k v = some l → Maps.has D l = (f v).isSome ∧ D.atKey l (.lit (.int .i64 0)) = .lit (.int .i64 ((f v).getD 0))
open Classical in
noncomputable def putV (f : Value → Option Int) (v : Value) (x : Int) : Value → Option Int := fun u => if u = v then some x else f u
theorem putV_same (f : Value → Option Int) (v : Value) (x : Int) : putV f v x v = some x := by simp [putV]
theorem putV_other (f : Value → Option Int) {v u : Value} (x : Int) (h : u ≠ v) : putV f v x u = f u := by simp [putV, h]
section
variable {P : Program} {k e t : TypeId} {w : World} {b n : Nat} {f : Value → Option Int}
theorem MapV.lt (h : MapV P k e w b n f) : b < w.heap.size := by obtain ⟨D, h, _⟩ := h; exact h.lt
theorem MapV.kept {w' : World} {row : Option Nat} (h : MapV P k e w b n f) (hg : w.grownBy w' row) (hne : some b ≠ row) : MapV P k e w' b n f := by
 obtain ⟨D, h, a⟩ := h; exact ⟨D, h.kept hg hne, a⟩
theorem MapV.alloc (h : MapV P k e w b n f) (o : Obj) : MapV P k e (w.alloc o) b n f := by obtain ⟨D, h, a⟩ := h; exact ⟨D, h.alloc o, a⟩
theorem MapV.drewN (h : MapV P k e w b n f) (q : Nat) : MapV P k e (w.drewN q) b n f := by
 obtain ⟨D, ⟨g, a, d, r⟩, c⟩ := h; exact ⟨D, ⟨g, a, d, r⟩, c⟩
theorem MapV.block {w' : World} (h : MapV P k e w b n f) (hb : w'.heap[b]? = w.heap[b]?) : MapV P k e w' b n f := by
 obtain ⟨D, ⟨d, a, g, r⟩, c⟩ := h; exact ⟨D, ⟨d, a, by rw [hb]; exact g, r⟩, c⟩
theorem MapV.below {w' : World} {m : Nat} (h : MapV P k e w b n f) (hB : Below m w w') (hm : b < m) : MapV P k e w' b n f := h.block (hB.block b hm)
theorem MapV.mono {n' : Nat} (h : MapV P k e w b n f) (hn : n ≤ n') : MapV P k e w b n' f := by obtain ⟨D, h, a⟩ := h; exact ⟨D, h.mono hn, a⟩
theorem MapV.congr {g : Value → Option Int} (h : MapV P k e w b n f) (hfg : ∀ v l, keyOf P k v = some l → f v = g v) : MapV P k e w b n g := by
 obtain ⟨D, h, a⟩ := h;exact ⟨D, h, fun v l hl => by rw [← hfg v l hl]; exact a v l hl⟩
theorem MapV.look (h : MapV P k e w b n f) (K : Keyed P k) (ht : P.underlying t = some (.map k e)) (he : P.underlying e = some (.int .i64)) (hz : (zeroValue e).run P w = .ok (nI 0) w) {v : Value} {l : Lit} (hl : keyOf P k v = some l) :
    (Instr.lookup t (.map (some b)) v false).run P w = .ok (nI ((f v).getD 0)) w := by
 obtain ⟨D, h, g⟩ := h;obtain ⟨c, d, a, _⟩ := h.lookup_int K ht he hz hl;rw [(g v l hl).2] at a;simp only [DataW.lit.injEq, Lit.int.injEq, true_and] at a;rw [d, a]
theorem MapV.put (h : MapV P k e w b n f) (K : Keyed P k) (ht : P.underlying t = some (.map k e)) (he : P.underlying e = some (.int .i64)) (hn : n < maxLen) {v : Value} {l : Lit} (hl : keyOf P k v = some l) {x : Int} (hx : (Lit.int .i64 x).wf = true) :
    ∃ c, (Instr.mapUpdate t (.map (some b)) v (nI x)).run P w = .ok () c ∧ MapV P k e c b (n + 1) (putV f v x) ∧ w.grownBy c (some b) := by
 obtain ⟨D, h, i⟩ := h;obtain ⟨c, a, j, o⟩ := h.update K ht hn hl (plainElem_int he hx);refine ⟨c, a, ⟨_, j, fun u l' hl' => ?_⟩, o⟩;by_cases g : u = v
 ·subst g;rw [hl] at hl';cases hl'
  rw [putV_same, has_put_same h.isMap (K.key hl), atKey_put_same h.isMap (K.key hl)];exact ⟨rfl, rfl⟩
 ·have d : l' ≠ l := fun e => g (K.inj hl' (e ▸ hl));rw [putV_other f x g, has_put_other d, atKey_put_other d];exact i u l' hl'
theorem MapV.wiped (h : MapV P k e w b n f) (ht : P.underlying t = some (.map k e)) (ty : TypeId) :
    ∃ w', (Builtin.clear_ #[t] ty #[.map (some b)]).run P w = .ok (.tuple #[]) w' ∧ MapV P k e w' b n (fun _ => none) ∧ w.grownBy w' (some b) := by
 obtain ⟨D, ⟨es, a, c, F, hs, rfl⟩, hf⟩ := h;refine ⟨ChangeMaps.setBlock w b (.map #[] a), ?_, ⟨.map [], ⟨#[], a, ChangeMaps.heap_setBlock_same c _, ⟨by simp, MapKept.stamped_empty a, by simp⟩, by simp, rfl⟩, fun v l _ => ⟨rfl, rfl⟩⟩, ⟨rfl, rfl, rfl, by simp [ChangeMaps.setBlock], fun i _ hi => ChangeMaps.heap_setBlock_other c _ (fun e => hi (by rw [e]))⟩⟩;simp [Builtin.clear_, run_underlying ht, MapKept.run_getObj_map c, MapKept.run_setObj_map _ c, Result.andThen, ChangeMaps.setBlock]
theorem MapV.entry (h : MapV P k e w b n f) (KL : WideMaps.KeyLaw P k) (ht : P.underlying t = some (.map k e)) (he : P.underlying e = some (.int .i64)) (hz : ∀ u : World, (zeroValue e).run P u = .ok (nI 0) u) (hn : n < maxLen) {v : Value} {l : Lit} (hl : keyOf P k v = some l) :
    ∃ (S : Value) (J : Nat) (w1 : World), (Instr.mapEntry t (.map (some b)) v).run P w = .ok (.tuple #[S, goInt J]) w1 ∧ w.grownBy w1 (some b) ∧ (Instr.lookup t (.map (some b)) v false).run P w1 = .ok (nI ((f v).getD 0)) w1 ∧
     ∀ x : Int, (Lit.int .i64 x).wf = true → ∃ w2, (Instr.entryStore t (.map (some b)) (goInt J) (nI x)).run P w1 = .ok () w2 ∧ MapV P k e w2 b (n + 1) (putV f v x) ∧ w.grownBy w2 (some b) := by
 have K := Keyed.of_law KL;have M := h;obtain ⟨D, ⟨y, c, o, F, hs, hD⟩, hf⟩ := h;obtain ⟨S, J, q, d, O, _, V⟩ := WideElems.entry_then_store KL ht hz o F hl;have A : (ChangeMaps.setBlock w b (.map q d)).heap[b]? = some (.map q d) := ChangeMaps.heap_setBlock_same o _;have Y : w.grownBy (ChangeMaps.setBlock w b (.map q d)) (some b) := ⟨rfl, rfl, rfl, by simp [ChangeMaps.setBlock], fun i _ hi => ChangeMaps.heap_setBlock_other o _ (fun e => hi (by rw [e]))⟩;refine ⟨S, J, _, O, Y, ?_, fun x hx => ?_⟩
 ·-- the world behind the entry is a world behind a store of what was there, but for the element: looked up by the store's own law
  obtain ⟨E, m, g, p⟩ := V _ (nI ((f v).getD 0)) A;have K1 := K.find w hl y.toList F.keys;rcases K1 with ⟨B, L⟩ | ⟨j, G, B, L, X⟩
  ·have r : (Instr.mapEntry t (.map (some b)) v).run P w = .ok (.tuple #[nI 0, goInt c]) (ChangeMaps.setBlock w b (.map (y.push ⟨v, nI 0, c⟩) (c + 1))) := by
     simp [Instr.mapEntry, run_underlying ht, MapKept.run_getObj_map o, K.check w false hl, B, hz, MapKept.run_setObj_map _ o, Result.andThen, ChangeMaps.setBlock]
   rw [O] at r;simp only [Result.ok.injEq] at r;rw [r.2];have C := M.put K ht he hn hl (x := 0) (by decide);obtain ⟨N, R, T, _⟩ := C;have I : (Instr.mapUpdate t (.map (some b)) v (nI 0)).run P w = .ok () (ChangeMaps.setBlock w b (.map (y.push ⟨v, nI 0, c⟩) (c + 1))) := by
    simp [Instr.mapUpdate, run_underlying ht, MapKept.run_getObj_map o, K.check w false hl, B, MapKept.run_setObj_map _ o, Result.andThen, ChangeMaps.setBlock]
   rw [R] at I;simp only [Result.ok.injEq, true_and] at I;rw [← I];have H := T.look K ht he (hz _) hl;rw [putV_same] at H;have U := M.look K ht he (hz _) hl;have z : (Instr.lookup t (.map (some b)) v false).run P w = .ok (nI 0) w := by
    simp [Instr.lookup, run_underlying ht, MapKept.run_getObj_map o, K.check w _ hl, B, hz, Result.andThen]
   rw [U] at z;simp only [Result.ok.injEq, Value.int.injEq, true_and, and_true] at z;rw [z];simpa using H
  ·have hj : y[j]? = some G := by simpa using L
   have s : y.modify j (fun e => { e with key := v }) = y := by
    apply Array.ext'
    rw [Array.toList_modify, ChangeMaps.modify_eq_set _ _ _ _ L];have : ({ G with key := v } : MapEntry) = G := by rw [← X]
    rw [this];exact WideElems.set_self _ _ _ L
   have r : (Instr.mapEntry t (.map (some b)) v).run P w = .ok (.tuple #[G.val, goInt G.born]) (ChangeMaps.setBlock w b (.map y c)) := by
    simp [Instr.mapEntry, run_underlying ht, MapKept.run_getObj_map o, K.check w false hl, B, hj, X, K.stays w hl, s, MapKept.run_setObj_map _ o, Result.andThen, ChangeMaps.setBlock]
   rw [O] at r;simp only [Result.ok.injEq] at r;rw [r.2];refine (M.block ?_).look K ht he (hz _) hl;rw [ChangeMaps.heap_setBlock_same o _, o]
 ·obtain ⟨E, m, g, p⟩ := V _ (nI x) A;obtain ⟨N, R, T, Z⟩ := M.put K ht he hn hl hx;rw [R] at p;simp only [Result.ok.injEq, true_and] at p;have I : ChangeMaps.setBlock (ChangeMaps.setBlock w b (.map q d)) b (.map E m) = N := by rw [p]; simp [ChangeMaps.setBlock]
  rw [I] at g;exact ⟨N, g, T, Z⟩
variable {ops : Array Oper} {rest : List Oper} {o : Oper} {a : Act} {Q : Exit → Act → World → Prop}
theorem wpList_clear_V (hg : o.guard = none) (m : Operand) (t : TypeId) (hop : o.op = Op.call { callee := Callee.builtin Builtin.clear, args := #[m], argTypes := #[t] })
    (h : MapV P k e w b n f) (ht : P.underlying t = some (.map k e)) (hm : a.eval m = .map (some b))
    (hK : ∀ d, MapV P k e d b n (fun _ => none) → w.grownBy d (some b) → wpList P ops Q rest (a.put o.dst (.tuple #[])) d) :
    wpList P ops Q (o :: rest) a w := by
 refine wpList_plain hg fun K' hK' => ?_;obtain ⟨d, c, g, i⟩ := h.wiped ht o.type;unfold Oper.wp;simp [execOp, hop, resolve, invoke, builtin, hm, c, Result.andThen]
 exact hK' _ _ (hK d g i)
end
#print axioms MapV.look
#print axioms wpList_clear_V
open Go.Maps (Keyed)
theorem laidOutB_ok : laidOutB Tryz.prog = true := by kernel_rfl
def holdC : Array Value := #[.bool false, .bool false, .bool false, .bool true, .bool false, .bool false, .bool true, .bool true, .bool false, .bool true, .bool true, .bool true]
def HoldT (w : World) : Prop := ∃ t fz, w.heap[0]? = some (.cells holdC t fz)
theorem HoldT.lt {w : World} (h : HoldT w) : 0 < w.heap.size := by obtain ⟨t, fz, h⟩ := h; exact (ltH h)
theorem HoldT.below {w w' : World} {m : Nat} (h : HoldT w) (hB : Below m w w') (hm : 0 < m) : HoldT w' := by
 obtain ⟨t, a, h⟩ := h;exact ⟨t, a, (hB.block 0 hm).trans h⟩
theorem HoldT.goes {w w' : World} (h : HoldT w) (hB : Bl w w') : HoldT w' := h.below hB h.lt
theorem HoldT.grown {w w' : World} {b : Nat} (h : HoldT w) (hg : w.grownBy w' (some b)) (hb : 0 < b) : HoldT w' := by
 have c := h.lt;obtain ⟨t, a, h⟩ := h;exact ⟨t, a, (hg.block 0 c (by simp; omega)).trans h⟩
theorem HoldT.drewN {w : World} (h : HoldT w) (q : Nat) : HoldT (w.drewN q) := h
theorem HoldT.cells {w : World} (h : HoldT w) :
    w.cell? ⟨0, 0, none⟩ = some (.bool false) ∧ w.cell? ⟨0, 1, none⟩ = some (.bool false) ∧ w.cell? ⟨0, 2, none⟩ = some (.bool false) ∧
    w.cell? ⟨0, 3, none⟩ = some (.bool true) ∧ w.cell? ⟨0, 4, none⟩ = some (.bool false) ∧ w.cell? ⟨0, 5, none⟩ = some (.bool false) ∧
    w.cell? ⟨0, 6, none⟩ = some (.bool true) ∧ w.cell? ⟨0, 7, none⟩ = some (.bool true) ∧ w.cell? ⟨0, 8, none⟩ = some (.bool false) ∧
    w.cell? ⟨0, 9, none⟩ = some (.bool true) ∧ w.cell? ⟨0, 10, none⟩ = some (.bool true) ∧ w.cell? ⟨0, 11, none⟩ = some (.bool true) := by
 obtain ⟨t, fz, h⟩ := h;refine ⟨?_, ?_, ?_, ?_, ?_, ?_, ?_, ?_, ?_, ?_, ?_, ?_⟩ <;> (rw [cell_of_row w 0 _ _ _ _ h]; rfl)
abbrev hk (a b c : Bool) : Value := .agg #[.bool a, .bool b, .bool c]
theorem state4 {s : Int} (h : betw s 0 3 = true) : s = 0 ∨ s = 1 ∨ s = 2 ∨ s = 3 := by simp [betw] at h; omega
abbrev holdName : String := "loop.example/g00342/impl.holdings"
abbrev holdD {H : Type} : DataW H := .agg [.agg [.lit (.bool false), .lit (.bool false), .lit (.bool false)], .agg [.lit (.bool true), .lit (.bool false), .lit (.bool false)], .agg [.lit (.bool true), .lit (.bool true), .lit (.bool false)], .agg [.lit (.bool true), .lit (.bool true), .lit (.bool true)]]
abbrev holdLT : List (String × DataW Unit) := [(holdName, Rows.laid_loop_example_g00342_impl_holdings)]
theorem gHold : Tryz.prog.globalNamed holdName = some 0 := by kernel_rfl
theorem gHoldType : (Tryz.prog.globals[0]?).map (·.type) = some 154 := by kernel_rfl
theorem hold_reads {H : Type} (enc : TypeId × Value → H) (W : World) (sp : Nat → Bool) : DataW.trod enc Tryz.prog W 0 sp true 4 154 holdC.toList = some (holdD, []) := by kernel_rfl
theorem bool_of_trod {H : Type} {enc : TypeId × Value → H} {P : Program} {w : World} {base : Nat} {sp : Nat → Bool} {held : Bool} {fuel : Nat} {t : TypeId} {c : Value} {y : DataW H × List MemPlace}
    (ht : P.underlying t = some .bool) (h : DataW.trod enc P w base sp held fuel t [c] = some y) : ∃ b, c = .bool b ∧ y = (.lit (.bool b), []) := by
 cases fuel with
 | zero => simp [DataW.trod] at h
 | succ fuel =>
  cases c <;> simp [DataW.trod, ht] at h
  exact ⟨_, rfl, h.symm⟩
theorem bools_of_trod {H : Type} {enc : TypeId × Value → H} {P : Program} {w : World} {base : Nat} {sp : Nat → Bool} {held : Bool} {fuel : Nat} {t u : TypeId} {f0 f1 f2 : Field} {x y z : Value} {r : DataW H × List MemPlace} {a b c : Bool}
    (ht : P.underlying t = some (.struct #[f0, f1, f2])) (hu : P.underlying u = some .bool) (h0 : f0.type = u) (h1 : f1.type = u) (h2 : f2.type = u) (o0 : f0.offset = 0) (o1 : f1.offset = 1) (o2 : f2.offset = 2) (hc : P.cellsOf u = 1)
    (h : DataW.trod enc P w base sp held fuel t [x, y, z] = some r) (hr : r.1 = .agg [.lit (.bool a), .lit (.bool b), .lit (.bool c)]) : x = .bool a ∧ y = .bool b ∧ z = .bool c := by
 obtain ⟨y0, y1, y2, n, rfl, _, f, d, g⟩ := Deep.trod_struct3 ht h;rw [h0, o0, hc] at f;rw [h1, o1, hc] at d;rw [h2, o2, hc] at g;obtain ⟨p0, rfl, rfl⟩ := bool_of_trod hu f;obtain ⟨p1, rfl, rfl⟩ := bool_of_trod hu d;obtain ⟨p2, rfl, rfl⟩ := bool_of_trod hu g;simp at hr
 obtain ⟨rfl, rfl, rfl⟩ := hr;exact ⟨rfl, rfl, rfl⟩
theorem table_of_trod {H : Type} {enc : TypeId × Value → H} {P : Program} {w : World} {base : Nat} {sp : Nat → Bool} {held : Bool} {fuel : Nat} {T t u : TypeId} {f0 f1 f2 : Field} {cs : List Value} {p : List MemPlace}
    (hT : P.underlying T = some (.array 4 t)) (hcT : P.cellsOf T = 12) (hct : P.cellsOf t = 3)
    (ht : P.underlying t = some (.struct #[f0, f1, f2])) (hu : P.underlying u = some .bool) (h0 : f0.type = u) (h1 : f1.type = u) (h2 : f2.type = u) (o0 : f0.offset = 0) (o1 : f1.offset = 1) (o2 : f2.offset = 2) (hc : P.cellsOf u = 1)
    (h : DataW.trod enc P w base sp held fuel T cs = some (holdD, p)) : cs = holdC.toList := by
 cases fuel with
 | zero => simp [DataW.trod] at h
 | succ fuel =>
  simp only [DataW.trod, hT, hcT, hct] at h;split at h
  ·rename_i hl
   obtain ⟨f, i, l, c, g, j, k, d, n, m, b, a, rfl⟩ : ∃ f i l c g j k d n m b a, cs = [f, i, l, c, g, j, k, d, n, m, b, a] := by
    match cs, hl with
    | [f, i, l, c, g, j, k, d, n, m, b, a], _ => exact ⟨f, i, l, c, g, j, k, d, n, m, b, a, rfl⟩
   rw [show List.range 4 = [0, 1, 2, 3] from rfl] at h;simp only [Option.map_eq_some_iff, List.mapM_cons, List.mapM_nil, Option.bind_eq_bind, Option.bind_eq_some_iff, Option.pure_def, Option.some.injEq] at h;obtain ⟨xs, ⟨y0, v, _, ⟨y1, q, _, ⟨y2, B, _, ⟨y3, r, _, rfl, rfl⟩, rfl⟩, rfl⟩, rfl⟩, o⟩ := h;simp only [List.map_cons, List.map_nil, Prod.mk.injEq, DataW.agg.injEq, List.cons.injEq, and_true] at o;obtain ⟨⟨z, s, A, y⟩, _⟩ := o;obtain ⟨rfl, rfl, rfl⟩ := bools_of_trod ht hu h0 h1 h2 o0 o1 o2 hc v z;obtain ⟨rfl, rfl, rfl⟩ := bools_of_trod ht hu h0 h1 h2 o0 o1 o2 hc q s;obtain ⟨rfl, rfl, rfl⟩ := bools_of_trod ht hu h0 h1 h2 o0 o1 o2 hc B A;obtain ⟨rfl, rfl, rfl⟩ := bools_of_trod ht hu h0 h1 h2 o0 o1 o2 hc r y;rfl
  ·cases h
theorem hold_var {W : World} (h : laidMet Tryz.prog holdLT W) : W.var? Tryz.prog holdName = some holdC := by
 obtain ⟨ps, ⟨g, t, c, b, p, q, f, i, a, d, _, _⟩, _⟩ := h;obtain rfl := Option.some.inj (gHold.symm.trans f);obtain rfl := Option.some.inj (gHoldType.symm.trans i);rw [a];have := table_of_trod Tryz.underlying154 (by kernel_rfl) (by kernel_rfl) Tryz.underlying153 Tryz.underlying4 rfl rfl rfl rfl rfl rfl (by kernel_rfl) d;obtain ⟨l⟩ := c;rw [show l = holdC.toList from this]
theorem hold_of_var {W : World} (h : W.var? Tryz.prog holdName = some holdC) : HoldT W := by
 simp only [World.var?, gHold, Option.bind_some] at h;split at h
 ·rename_i cs t fz e
  cases h;exact ⟨t, fz, e⟩
 ·cases h
theorem var_below {W W' : World} (h : W.var? Tryz.prog holdName = some holdC) (hB : Bl W W') : W'.var? Tryz.prog holdName = some holdC := by
 obtain ⟨t, fz, e⟩ := (hold_of_var h).goes hB;simp only [World.var?, gHold, Option.bind_some, e]
theorem vars_hold {H : Type} (enc : TypeId × Value → H) {W : World} (sp : Nat → Bool) (h : W.var? Tryz.prog holdName = some holdC) : DataW.TrodVars enc Tryz.prog W sp [holdName] [holdD] (MemPlace.row ⟨0, 0, none⟩ holdC.size ++ [] ++ []) :=
 ⟨0, 154, holdC, 4, [], [], gHold, gHoldType, h, hold_reads enc W sp, rfl, rfl⟩
theorem vars_one {H : Type} {enc : TypeId × Value → H} {W : World} {gs : List (DataW H)} {q : List MemPlace} (hV : DataW.TrodVars enc Tryz.prog W (fun _ => true) [holdName] gs q) (h : W.var? Tryz.prog holdName = some holdC) : gs = [holdD] := by
 obtain ⟨g, t, c, b, d, p', rfl, i, j, a, f, rfl⟩ := trodVars_one hV;obtain rfl := Option.some.inj (gHold.symm.trans i);obtain rfl := Option.some.inj (gHoldType.symm.trans j);obtain rfl : c = holdC := Option.some.inj (a.symm.trans h);obtain ⟨rfl, rfl⟩ := DataW.Trod.unique (v := .agg holdC) ⟨b, f⟩ ⟨4, hold_reads enc W _⟩;rfl
end Go.Proofs.YtdamokokcdcedaaGreatDoor
