import Derived.Test.YtcocbafhcpdheaaGreatDoorT00Box
import Derived.Maps.OwnSet
import Derived.DeepKeys4
import Derived.WideKeyEntry
import Derived.Orders
import Derived.Test.YtcocbafhcpdheaaGreatDoorProg
import Derived.RowKit
import Derived.Deep.CutBlock
import Derived.OwnWalk
import Derived.Test.YtcocbafhcpdheaaGreatDoorT03
import Derived.Test.YtcocbafhcpdheaaGreatDoorCards
import Derived.Test.YtcocbafhcpdheaaGreatDoorTie
import Derived.ChangeSame
import Derived.ChangeVars
import Derived.JoinedOf
import Derived.LaidLaws
import Derived.Deep.Strs
import Derived.LaidEql
import Derived.Stop.Asserts
import Derived.RowKitTokens
namespace Go.Proofs.YtcocbafhcpdheaaGreatDoor
open Go.ChangeShapes Go.WideShapes Go.RowKit
open Go.Maps (Keyed has_put_same has_put_other atKey_put_same atKey_put_other)
set_option linter.unusedVariables false
def MapV (P : Program) (k e : TypeId) (w : World) (b n : Nat) (f : Value → Option Int) : Prop :=
 ∃ D : DataW Unit, w.ownsMap P k (plainElem P e) b n D ∧ ∀ v l, keyOf P k v = some l → Maps.has D l = (f v).isSome ∧ D.atKey l (.lit (.int .i64 0)) = .lit (.int .i64 ((f v).getD 0))
open Classical in
noncomputable def putV (f : Value → Option Int) (v : Value) (x : Int) : Value → Option Int := fun u => if u = v then some x else f u
theorem zIR (f : Value → Option Int) (v : Value) (x : Int) : putV f v x v = some x := by simp [putV]
theorem zLV (f : Value → Option Int) {v u : Value} (x : Int) (h : u ≠ v) : putV f v x u = f u := by simp [putV, h]
section
variable {P : Program} {k e t : TypeId} {w : World} {b n : Nat} {f : Value → Option Int}
theorem MapV.lt (h : MapV P k e w b n f) : b < w.heap.size := by obtain ⟨D, h, _⟩ := h; exact h.lt
theorem MapV.kept {w' : World} {row : Option Nat} (h : MapV P k e w b n f) (hg : w.grownBy w' row) (hne : some b ≠ row) : MapV P k e w' b n f := by
 obtain ⟨D, h, a⟩ := h; exact ⟨D, h.kept hg hne, a⟩
theorem MapV.alloc (h : MapV P k e w b n f) (o : Obj) : MapV P k e (w.alloc o) b n f := by obtain ⟨D, h, a⟩ := h; exact ⟨D, h.alloc o, a⟩
theorem MapV.drewN (h : MapV P k e w b n f) (q : Nat) : MapV P k e (w.drewN q) b n f := by
 obtain ⟨D, ⟨g, a, d, r⟩, c⟩ := h; exact ⟨D, ⟨g, a, d, r⟩, c⟩
theorem MapV.block {w' : World} (h : MapV P k e w b n f) (hb : w'.heap[b]? = w.heap[b]?) : MapV P k e w' b n f := by
 obtain ⟨D, ⟨g, a, d, r⟩, c⟩ := h; exact ⟨D, ⟨g, a, by rw [hb]; exact d, r⟩, c⟩
theorem MapV.below {w' : World} {m : Nat} (h : MapV P k e w b n f) (hB : Below m w w') (hm : b < m) : MapV P k e w' b n f := h.block (hB.block b hm)
theorem MapV.mono {n' : Nat} (h : MapV P k e w b n f) (hn : n ≤ n') : MapV P k e w b n' f := by obtain ⟨D, h, a⟩ := h; exact ⟨D, h.mono hn, a⟩
theorem MapV.congr {g : Value → Option Int} (h : MapV P k e w b n f) (hfg : ∀ v l, keyOf P k v = some l → f v = g v) : MapV P k e w b n g := by
 obtain ⟨D, h, a⟩ := h;exact ⟨D, h, fun v l hl => by rw [← hfg v l hl]; exact a v l hl⟩
theorem MapV.look (h : MapV P k e w b n f) (K : Keyed P k) (ht : P.underlying t = some (.map k e)) (he : P.underlying e = some (.int .i64)) (hz : (zeroValue e).run P w = .ok (.int .i64 0) w) {v : Value} {l : Lit} (hl : keyOf P k v = some l) :
    (Instr.lookup t (.map (some b)) v false).run P w = .ok (.int .i64 ((f v).getD 0)) w := by
 obtain ⟨D, h, g⟩ := h;obtain ⟨c, d, a, _⟩ := h.lookup_int K ht he hz hl;rw [(g v l hl).2] at a;simp only [DataW.lit.injEq, Lit.int.injEq, true_and] at a;rw [d, a]
theorem MapV.put (h : MapV P k e w b n f) (K : Keyed P k) (ht : P.underlying t = some (.map k e)) (he : P.underlying e = some (.int .i64)) (hn : n < maxLen) {v : Value} {l : Lit} (hl : keyOf P k v = some l) {x : Int} (hx : (Lit.int .i64 x).wf = true) :
    ∃ c, (Instr.mapUpdate t (.map (some b)) v (.int .i64 x)).run P w = .ok () c ∧ MapV P k e c b (n + 1) (putV f v x) ∧ w.grownBy c (some b) := by
 obtain ⟨D, h, i⟩ := h;obtain ⟨c, a, j, o⟩ := h.update K ht hn hl (plainElem_int he hx);refine ⟨c, a, ⟨_, j, fun u l' hl' => ?_⟩, o⟩;by_cases g : u = v
 ·subst g;rw [hl] at hl';cases hl'
  rw [zIR, has_put_same h.isMap (K.key hl), atKey_put_same h.isMap (K.key hl)];exact ⟨rfl, rfl⟩
 ·have d : l' ≠ l := fun e => g (K.inj hl' (e ▸ hl));rw [zLV f x g, has_put_other d, atKey_put_other d];exact i u l' hl'
theorem MapV.wiped (h : MapV P k e w b n f) (ht : P.underlying t = some (.map k e)) (ty : TypeId) :
    ∃ w', (Builtin.clear_ #[t] ty #[.map (some b)]).run P w = .ok (.tuple #[]) w' ∧ MapV P k e w' b n (fun _ => none) ∧ w.grownBy w' (some b) := by
 obtain ⟨D, ⟨es, a, c, F, hs, rfl⟩, hf⟩ := h;refine ⟨ChangeMaps.setBlock w b (.map #[] a), ?_, ⟨.map [], ⟨#[], a, ChangeMaps.heap_setBlock_same c _, ⟨by simp, MapKept.stamped_empty a, by simp⟩, by simp, rfl⟩, fun v l _ => ⟨rfl, rfl⟩⟩, ⟨rfl, rfl, rfl, by simp [ChangeMaps.setBlock], fun i _ hi => ChangeMaps.heap_setBlock_other c _ (fun e => hi (by rw [e]))⟩⟩;simp [Builtin.clear_, run_underlying ht, MapKept.run_getObj_map c, MapKept.run_setObj_map _ c, Result.andThen, ChangeMaps.setBlock]
theorem MapV.entry (h : MapV P k e w b n f) (KL : WideMaps.KeyLaw P k) (ht : P.underlying t = some (.map k e)) (he : P.underlying e = some (.int .i64)) (hz : ∀ u : World, (zeroValue e).run P u = .ok (.int .i64 0) u) (hn : n < maxLen) {v : Value} {l : Lit} (hl : keyOf P k v = some l) :
    ∃ (R : Value) (M : Nat) (w1 : World), (Instr.mapEntry t (.map (some b)) v).run P w = .ok (.tuple #[R, goInt M]) w1 ∧ w.grownBy w1 (some b) ∧ (Instr.lookup t (.map (some b)) v false).run P w1 = .ok (.int .i64 ((f v).getD 0)) w1 ∧
     ∀ x : Int, (Lit.int .i64 x).wf = true → ∃ w2, (Instr.entryStore t (.map (some b)) (goInt M) (.int .i64 x)).run P w1 = .ok () w2 ∧ MapV P k e w2 b (n + 1) (putV f v x) ∧ w.grownBy w2 (some b) := by
 have K := Keyed.of_law KL;have J := h;obtain ⟨D, ⟨s, c, o, F, hs, hD⟩, hf⟩ := h;obtain ⟨R, M, q, d, O, _, V⟩ := WideElems.entry_then_store KL ht hz o F hl;have C : (ChangeMaps.setBlock w b (.map q d)).heap[b]? = some (.map q d) := ChangeMaps.heap_setBlock_same o _;have Z : w.grownBy (ChangeMaps.setBlock w b (.map q d)) (some b) := ⟨rfl, rfl, rfl, by simp [ChangeMaps.setBlock], fun i _ hi => ChangeMaps.heap_setBlock_other o _ (fun e => hi (by rw [e]))⟩;refine ⟨R, M, _, O, Z, ?_, fun x hx => ?_⟩
 ·-- the world behind the entry is a world behind a store of what was there, but for the element: looked up by the store's own law
  obtain ⟨G, m, g, p⟩ := V _ (.int .i64 ((f v).getD 0)) C;have K1 := K.find w hl s.toList F.keys;rcases K1 with ⟨A, L⟩ | ⟨j, H, A, L, X⟩
  ·have z : (Instr.mapEntry t (.map (some b)) v).run P w = .ok (.tuple #[.int .i64 0, goInt c]) (ChangeMaps.setBlock w b (.map (s.push ⟨v, .int .i64 0, c⟩) (c + 1))) := by
     simp [Instr.mapEntry, run_underlying ht, MapKept.run_getObj_map o, K.check w false hl, A, hz, MapKept.run_setObj_map _ o, Result.andThen, ChangeMaps.setBlock]
   rw [O] at z;simp only [Result.ok.injEq] at z;rw [z.2];have I := J.put K ht he hn hl (x := 0) (by decide);obtain ⟨N, S, T, _⟩ := I;have E : (Instr.mapUpdate t (.map (some b)) v (.int .i64 0)).run P w = .ok () (ChangeMaps.setBlock w b (.map (s.push ⟨v, .int .i64 0, c⟩) (c + 1))) := by
    simp [Instr.mapUpdate, run_underlying ht, MapKept.run_getObj_map o, K.check w false hl, A, MapKept.run_setObj_map _ o, Result.andThen, ChangeMaps.setBlock]
   rw [S] at E;simp only [Result.ok.injEq, true_and] at E;rw [← E];have B := T.look K ht he (hz _) hl;rw [zIR] at B;have U := J.look K ht he (hz _) hl;have y : (Instr.lookup t (.map (some b)) v false).run P w = .ok (.int .i64 0) w := by
    simp [Instr.lookup, run_underlying ht, MapKept.run_getObj_map o, K.check w _ hl, A, hz, Result.andThen]
   rw [U] at y;simp only [Result.ok.injEq, Value.int.injEq, true_and, and_true] at y;rw [y];simpa using B
  ·have hj : s[j]? = some H := by simpa using L
   have r : s.modify j (fun e => { e with key := v }) = s := by
    apply Array.ext'
    rw [Array.toList_modify, ChangeMaps.modify_eq_set _ _ _ _ L];have : ({ H with key := v } : MapEntry) = H := by rw [← X]
    rw [this];exact WideElems.set_self _ _ _ L
   have z : (Instr.mapEntry t (.map (some b)) v).run P w = .ok (.tuple #[H.val, goInt H.born]) (ChangeMaps.setBlock w b (.map s c)) := by
    simp [Instr.mapEntry, run_underlying ht, MapKept.run_getObj_map o, K.check w false hl, A, hj, X, K.stays w hl, r, MapKept.run_setObj_map _ o, Result.andThen, ChangeMaps.setBlock]
   rw [O] at z;simp only [Result.ok.injEq] at z;rw [z.2];refine (J.block ?_).look K ht he (hz _) hl;rw [ChangeMaps.heap_setBlock_same o _, o]
 ·obtain ⟨G, m, g, p⟩ := V _ (.int .i64 x) C;obtain ⟨N, S, T, Y⟩ := J.put K ht he hn hl hx;rw [S] at p;simp only [Result.ok.injEq, true_and] at p;have E : ChangeMaps.setBlock (ChangeMaps.setBlock w b (.map q d)) b (.map G m) = N := by rw [p]; simp [ChangeMaps.setBlock]
  rw [E] at g;exact ⟨N, g, T, Y⟩
variable {ops : Array Oper} {rest : List Oper} {o : Oper} {a : Act} {Q : Exit → Act → World → Prop}
theorem zHh (hg : o.guard = none) (m : Operand) (t : TypeId) (hop : o.op = Op.call { callee := Callee.builtin Builtin.clear, args := #[m], argTypes := #[t] })
    (h : MapV P k e w b n f) (ht : P.underlying t = some (.map k e)) (hm : a.eval m = .map (some b))
    (hK : ∀ c, MapV P k e c b n (fun _ => none) → w.grownBy c (some b) → wpList P ops Q rest (a.put o.dst (.tuple #[])) c) :
    wpList P ops Q (o :: rest) a w := by
 refine wpList_plain hg fun K' hK' => ?_;obtain ⟨c, d, g, i⟩ := h.wiped ht o.type;unfold Oper.wp;simp [execOp, hop, resolve, invoke, builtin, hm, d, Result.andThen]
 exact hK' _ _ (hK c g i)
end
#print axioms MapV.look
#print axioms zHh
open Go.Maps (Keyed)
def zDX : Array Value := #[.bool false, .bool false, .bool false, .bool true, .bool false, .bool false, .bool true, .bool true, .bool false, .bool true, .bool true, .bool true]
def HoldT (w : World) : Prop := ∃ t fz, w.heap[0]? = some (.cells zDX t fz)
theorem HoldT.lt {w : World} (h : HoldT w) : 0 < w.heap.size := by obtain ⟨t, fz, h⟩ := h; exact (ltH h)
theorem HoldT.below {w w' : World} {m : Nat} (h : HoldT w) (hB : Below m w w') (hm : 0 < m) : HoldT w' := by
 obtain ⟨t, a, h⟩ := h;exact ⟨t, a, (hB.block 0 hm).trans h⟩
theorem HoldT.goes {w w' : World} (h : HoldT w) (hB : Below w.heap.size w w') : HoldT w' := h.below hB h.lt
theorem HoldT.grown {w w' : World} {b : Nat} (h : HoldT w) (hg : w.grownBy w' (some b)) (hb : 0 < b) : HoldT w' := by
 have c := h.lt;obtain ⟨t, a, h⟩ := h;exact ⟨t, a, (hg.block 0 c (by simp; omega)).trans h⟩
theorem HoldT.drewN {w : World} (h : HoldT w) (q : Nat) : HoldT (w.drewN q) := h
theorem HoldT.cells {w : World} (h : HoldT w) :
    w.cell? ⟨0, 0, none⟩ = some (.bool false) ∧ w.cell? ⟨0, 1, none⟩ = some (.bool false) ∧ w.cell? ⟨0, 2, none⟩ = some (.bool false) ∧
    w.cell? ⟨0, 3, none⟩ = some (.bool true) ∧ w.cell? ⟨0, 4, none⟩ = some (.bool false) ∧ w.cell? ⟨0, 5, none⟩ = some (.bool false) ∧
    w.cell? ⟨0, 6, none⟩ = some (.bool true) ∧ w.cell? ⟨0, 7, none⟩ = some (.bool true) ∧ w.cell? ⟨0, 8, none⟩ = some (.bool false) ∧
    w.cell? ⟨0, 9, none⟩ = some (.bool true) ∧ w.cell? ⟨0, 10, none⟩ = some (.bool true) ∧ w.cell? ⟨0, 11, none⟩ = some (.bool true) := by
 obtain ⟨t, fz, h⟩ := h;refine ⟨?_, ?_, ?_, ?_, ?_, ?_, ?_, ?_, ?_, ?_, ?_, ?_⟩ <;> (rw [cell_of_row w 0 _ _ _ _ h]; rfl)
abbrev hk (a b c : Bool) : Value := .agg #[.bool a, .bool b, .bool c]
theorem state4 {s : Int} (h : zA8 s 0 3 = true) : s = 0 ∨ s = 1 ∨ s = 2 ∨ s = 3 := by simp [zA8] at h; omega
abbrev zCH : String := "loop.example/g00342/impl.holdings"
abbrev holdD {H : Type} : DataW H := .agg [.agg [.lit (.bool false), .lit (.bool false), .lit (.bool false)], .agg [.lit (.bool true), .lit (.bool false), .lit (.bool false)], .agg [.lit (.bool true), .lit (.bool true), .lit (.bool false)], .agg [.lit (.bool true), .lit (.bool true), .lit (.bool true)]]
abbrev zLi : List (String × DataW Unit) := [(zCH, Rows.laid_loop_example_g00342_impl_holdings)]
theorem zNo : Tryz.prog.globalNamed zCH = some 0 := by kernel_rfl
theorem zG0 : (Tryz.prog.globals[0]?).map (·.type) = some 195 := by kernel_rfl
theorem zH3 {H : Type} (enc : TypeId × Value → H) (W : World) (sp : Nat → Bool) : DataW.trod enc Tryz.prog W 0 sp true 4 195 zDX.toList = some (holdD, []) := by kernel_rfl
theorem zEg {H : Type} {enc : TypeId × Value → H} {P : Program} {w : World} {base : Nat} {sp : Nat → Bool} {held : Bool} {fuel : Nat} {t : TypeId} {c : Value} {y : DataW H × List MemPlace}
    (ht : P.underlying t = some .bool) (h : DataW.trod enc P w base sp held fuel t [c] = some y) : ∃ b, c = .bool b ∧ y = (.lit (.bool b), []) := by
 cases fuel with
 | zero => simp [DataW.trod] at h
 | succ fuel =>
  cases c <;> simp [DataW.trod, ht] at h
  exact ⟨_, rfl, h.symm⟩
theorem zDh {H : Type} {enc : TypeId × Value → H} {P : Program} {w : World} {base : Nat} {sp : Nat → Bool} {held : Bool} {fuel : Nat} {t u : TypeId} {f0 f1 f2 : Field} {x y z : Value} {r : DataW H × List MemPlace} {a b c : Bool}
    (ht : P.underlying t = some (.struct #[f0, f1, f2])) (hu : P.underlying u = some .bool) (h0 : f0.type = u) (h1 : f1.type = u) (h2 : f2.type = u) (o0 : f0.offset = 0) (o1 : f1.offset = 1) (o2 : f2.offset = 2) (hc : P.cellsOf u = 1)
    (h : DataW.trod enc P w base sp held fuel t [x, y, z] = some r) (hr : r.1 = .agg [.lit (.bool a), .lit (.bool b), .lit (.bool c)]) : x = .bool a ∧ y = .bool b ∧ z = .bool c := by
 obtain ⟨y0, y1, y2, n, rfl, _, g, d, f⟩ := Deep.trod_struct3 ht h;rw [h0, o0, hc] at g;rw [h1, o1, hc] at d;rw [h2, o2, hc] at f;obtain ⟨p0, rfl, rfl⟩ := zEg hu g;obtain ⟨p1, rfl, rfl⟩ := zEg hu d;obtain ⟨p2, rfl, rfl⟩ := zEg hu f;simp at hr
 obtain ⟨rfl, rfl, rfl⟩ := hr;exact ⟨rfl, rfl, rfl⟩
theorem zHT {H : Type} {enc : TypeId × Value → H} {P : Program} {w : World} {base : Nat} {sp : Nat → Bool} {held : Bool} {fuel : Nat} {T t u : TypeId} {f0 f1 f2 : Field} {cs : List Value} {p : List MemPlace}
    (hT : P.underlying T = some (.array 4 t)) (hcT : P.cellsOf T = 12) (hct : P.cellsOf t = 3)
    (ht : P.underlying t = some (.struct #[f0, f1, f2])) (hu : P.underlying u = some .bool) (h0 : f0.type = u) (h1 : f1.type = u) (h2 : f2.type = u) (o0 : f0.offset = 0) (o1 : f1.offset = 1) (o2 : f2.offset = 2) (hc : P.cellsOf u = 1)
    (h : DataW.trod enc P w base sp held fuel T cs = some (holdD, p)) : cs = zDX.toList := by
 cases fuel with
 | zero => simp [DataW.trod] at h
 | succ fuel =>
  simp only [DataW.trod, hT, hcT, hct] at h;split at h
  ·rename_i hl
   obtain ⟨n, i, l, g, j, d, m, k, c, f, a, b, rfl⟩ : ∃ n i l g j d m k c f a b, cs = [n, i, l, g, j, d, m, k, c, f, a, b] := by
    match cs, hl with
    | [n, i, l, g, j, d, m, k, c, f, a, b], _ => exact ⟨n, i, l, g, j, d, m, k, c, f, a, b, rfl⟩
   rw [show List.range 4 = [0, 1, 2, 3] from rfl] at h;simp only [Option.map_eq_some_iff, List.mapM_cons, List.mapM_nil, Option.bind_eq_bind, Option.bind_eq_some_iff, Option.pure_def, Option.some.injEq] at h;obtain ⟨xs, ⟨y0, v, _, ⟨y1, r, _, ⟨y2, q, _, ⟨y3, B, _, rfl, rfl⟩, rfl⟩, rfl⟩, rfl⟩, o⟩ := h;simp only [List.map_cons, List.map_nil, Prod.mk.injEq, DataW.agg.injEq, List.cons.injEq, and_true] at o;obtain ⟨⟨y, z, s, A⟩, _⟩ := o;obtain ⟨rfl, rfl, rfl⟩ := zDh ht hu h0 h1 h2 o0 o1 o2 hc v y;obtain ⟨rfl, rfl, rfl⟩ := zDh ht hu h0 h1 h2 o0 o1 o2 hc r z;obtain ⟨rfl, rfl, rfl⟩ := zDh ht hu h0 h1 h2 o0 o1 o2 hc q s;obtain ⟨rfl, rfl, rfl⟩ := zDh ht hu h0 h1 h2 o0 o1 o2 hc B A;rfl
  ·cases h
theorem hold_var {W : World} (h : laidMet Tryz.prog zLi W) : W.var? Tryz.prog zCH = some zDX := by
 obtain ⟨ps, ⟨g, t, d, b, p, q, c, f, a, i, _, _⟩, _⟩ := h;obtain rfl := Option.some.inj (zNo.symm.trans c);obtain rfl := Option.some.inj (zG0.symm.trans f);rw [a];have := zHT Tryz.underlying195 (by kernel_rfl) (by kernel_rfl) Tryz.underlying194 Tryz.underlying4 rfl rfl rfl rfl rfl rfl (by kernel_rfl) i;obtain ⟨l⟩ := d;rw [show l = zDX.toList from this]
theorem zJW {W : World} (h : W.var? Tryz.prog zCH = some zDX) : HoldT W := by
 simp only [World.var?, zNo, Option.bind_some] at h;split at h
 ·rename_i cs t fz e
  cases h;exact ⟨t, fz, e⟩
 ·cases h
theorem var_below {W W' : World} (h : W.var? Tryz.prog zCH = some zDX) (hB : Below W.heap.size W W') : W'.var? Tryz.prog zCH = some zDX := by
 obtain ⟨t, fz, e⟩ := (zJW h).goes hB;simp only [World.var?, zNo, Option.bind_some, e]
theorem vars_hold {H : Type} (enc : TypeId × Value → H) {W : World} (sp : Nat → Bool) (h : W.var? Tryz.prog zCH = some zDX) : DataW.TrodVars enc Tryz.prog W sp [zCH] [holdD] (MemPlace.row ⟨0, 0, none⟩ zDX.size ++ [] ++ []) :=
 ⟨0, 195, zDX, 4, [], [], zNo, zG0, h, zH3 enc W sp, rfl, rfl⟩
theorem vars_one {H : Type} {enc : TypeId × Value → H} {W : World} {gs : List (DataW H)} {q : List MemPlace} (hV : DataW.TrodVars enc Tryz.prog W (fun _ => true) [zCH] gs q) (h : W.var? Tryz.prog zCH = some zDX) : gs = [holdD] := by
 obtain ⟨g, t, f, b, d, p', rfl, c, i, a, j, rfl⟩ := trodVars_one hV;obtain rfl := Option.some.inj (zNo.symm.trans c);obtain rfl := Option.some.inj (zG0.symm.trans i);obtain rfl : f = zDX := Option.some.inj (a.symm.trans h);obtain ⟨rfl, rfl⟩ := DataW.Trod.unique (v := .agg zDX) ⟨b, j⟩ ⟨4, zH3 enc W _⟩;rfl
open Go.RowKit Go.Extern.Stop Go.Stop Go.Extern
abbrev refV (c : Int) : Value := .iface 243 (.int .i64 c)
abbrev fltV (n c : Int) : Value := .iface 275 (.agg #[.int .i64 n, .iface 243 (.int .i64 c)])
theorem zG1 (v : Value) (w : World) : (Extern.ReflectliteType.typeOf #[.iface 243 v]).run Tryz.prog w = .ok (.iface 286 (.agg #[.pointer (some ⟨2, 243, none⟩)])) w := by kernel_rfl
theorem zLW (v : Value) (w : World) : (Extern.ReflectliteType.typeOf #[.iface 275 v]).run Tryz.prog w = .ok (.iface 286 (.agg #[.pointer (some ⟨2, 275, none⟩)])) w := by kernel_rfl
def compF : Array Value → Sem Value := Extern.ReflectliteType.method fun t => do Extern.Rtype.noPackHeld "Comparable" t; pure (.bool (← typeInfo t).comparable)
theorem er_comp (w : World) : (compF #[.agg #[.pointer (some ⟨2, 243, none⟩)]]).run Tryz.prog w = .ok (.bool true) w := by kernel_rfl
theorem er_mComp (v : Value) (w : World) : (Go.method 436 286 v "Comparable").run Tryz.prog w = .ok (317, v) w := by kernel_rfl
theorem zNp : (Tryz.prog.info? 243).map (·.comparable) = some true := by kernel_rfl
theorem er_noIsR (v : Value) (xT : TypeId) (w : World) : (Instr.typeAssert (.iface 243 v) xT 302 true).run Tryz.prog w = .ok (.tuple #[.nilIface, .bool false]) w := run_typeAssert_lacksB Tryz.underlying302 (by kernel_rfl) (by kernel_rfl) v xT w
theorem er_noIsF (v : Value) (xT : TypeId) (w : World) : (Instr.typeAssert (.iface 275 v) xT 302 true).run Tryz.prog w = .ok (.tuple #[.nilIface, .bool false]) w := run_typeAssert_lacksB Tryz.underlying302 (by kernel_rfl) (by kernel_rfl) v xT w
theorem er_noUnR (v : Value) (xT : TypeId) (w : World) : (Instr.typeAssert (.iface 243 v) xT 294 true).run Tryz.prog w = .ok (.tuple #[.nilIface, .bool false]) w := run_typeAssert_lacksB Tryz.underlying294 (by kernel_rfl) (by kernel_rfl) v xT w
theorem zNq (v : Value) (xT : TypeId) (w : World) : (Instr.typeAssert (.iface 243 v) xT 296 true).run Tryz.prog w = .ok (.tuple #[.nilIface, .bool false]) w := run_typeAssert_lacksB Tryz.underlying296 (by kernel_rfl) (by kernel_rfl) v xT w
theorem zIS (v : Value) (xT : TypeId) (w : World) : (Instr.typeAssert (.iface 275 v) xT 294 true).run Tryz.prog w = .ok (.tuple #[.iface 275 v, .bool true]) w := run_typeAssert_hasB Tryz.underlying294 (by kernel_rfl) v xT w
theorem er_mUn (v : Value) (w : World) : (Go.method 436 275 v "Unwrap").run Tryz.prog w = .ok (314, v) w := by kernel_rfl
theorem er_eqR (a b : Int) (w : World) : (binOp .eql 213 (.iface 243 (.int .i64 a)) (.iface 243 (.int .i64 b))).run Tryz.prog w = .ok (.bool (a == b)) w := by
 obtain ⟨i, f, c⟩ := Option.map_eq_some_iff.1 zNp;have h : ∀ d : Nat, (Op.equalIn (d + 2) 213 (.iface 243 (.int .i64 a)) (.iface 243 (.int .i64 b))).run Tryz.prog w = .ok (a == b) w := fun d => by
  simp [Op.equalIn, run_underlying Tryz.underlying213, run_underlying Tryz.underlying243, typeInfo, f, c]
 simp only [binOp];simp [Op.equal, Op.maxDepth, h 9998]
theorem zH4 (n c : Int) (w : World) : Calls Tryz.prog 314 #[.agg #[.int .i64 n, .iface 243 (.int .i64 c)]] w fun e w' => e = .returned (.iface 243 (.int .i64 c)) ∧ Below w.heap.size w w' := by
 have a := zAf w (.cells #[.int .i64 n, .iface 243 (.int .i64 c)] 275);go_enter Tryz.func314, Tryz.ntmps314;go_wp2;go_ret
 exact ⟨rfl, a⟩
set_option maxHeartbeats 4000000 in
theorem zDO (n c d : Int) (w : World) : Calls Tryz.prog 261 #[.iface 275 (.agg #[.int .i64 n, .iface 243 (.int .i64 c)]), .iface 243 (.int .i64 d)] w fun e w' => e = .returned (.bool (c == d)) ∧ Below w.heap.size w w' := by
 have h8 := @run_callFunc_extern Tryz.prog 273 _ Extern.ReflectliteType.typeOf Tryz.func273 (by kernel_rfl) (by kernel_rfl) (by kernel_rfl) (by kernel_rfl);have g := @run_callFunc_extern Tryz.prog 317 _ compF Tryz.func317 (by kernel_rfl) (by kernel_rfl) (by kernel_rfl) (by kernel_rfl);have tT := zG1;have cT := er_comp;have mR := er_mComp;have n1 := er_noIsR;have n2 := er_noIsF;have n3 := er_noUnR;have n4 := zNq;have n5 := zIS;have mU := er_mUn;have i : ∀ W, (binOp .eql 213 (.iface 275 (.agg #[.int .i64 n, .iface 243 (.int .i64 c)])) (.iface 243 (.int .i64 d))).run Tryz.prog W = .ok (.bool false) W := fun W => run_eql_iface_types (P := Tryz.prog) 275 243 _ _ Tryz.underlying213 (by decide) W;have a : ∀ W, _ := fun W => er_eqR c d W;generalize k : (c == d) = q at a ⊢;go_enter Tryz.func261, Tryz.ntmps261;go_wp2_with go_in
 refine wp_loop_rounds 2 ?_;rw [rounds_succ];go_wp2_with (go_at_call 314; refine (zH4 _ _ _).mono ?_; rintro e j ⟨rfl, b⟩)
 rw [rounds_succ];have f : Hid (Below w.heap.size w j) := b;clear b k;cases q
 ·go_wp2;go_ret
  exact ⟨rfl, f.out⟩
 ·go_wp2;go_ret
  exact ⟨rfl, f.out⟩
def Hold (w : World) : Prop := w.cell? ⟨1, 0, none⟩ = some (.iface 286 (.agg #[.pointer (some ⟨2, 213, none⟩)]))
theorem Hold.lt {w : World} (h : Hold w) : 1 < w.heap.size := zAk h
theorem Hold.goes {w W : World} (h : Hold w) (hb : Below w.heap.size w W) : Hold W := zAe hb h h.lt
abbrev hanV (t : Nat) : Value := .iface 286 (.agg #[.pointer (some ⟨2, t, none⟩)])
abbrev valP (a : Addr) : Value := .agg #[.pointer (some ⟨2, 245, none⟩), .pointer (some a), .int .u64 150]
abbrev zNa (a : Addr) : Obj := .cells #[.pointer (some ⟨2, 245, none⟩), .pointer (some a), .int .u64 150] 265
def typeF : Array Value → Sem Value := ReflectliteValue.methodAny (ReflectliteValue.valueError "reflectlite.Value.Type" 0) (fun t _ _ _ => ReflectliteType.toType t)
def kindF : Array Value → Sem Value := ReflectliteType.abiMethod fun t => do pure (.int .u8 (← Rtype.kind t))
def zLj : Array Value → Sem Value := ReflectliteValue.method (ReflectliteValue.valueError "reflectlite.Value.IsNil" 0) ReflectliteValue.isNil
def zNr : Array Value → Sem Value := ReflectliteType.method ReflectliteType.elem
def implF : Array Value → Sem Value := ReflectliteType.relation "Implements" ReflectliteType.implements_
def asgnF : Array Value → Sem Value := ReflectliteType.relation "AssignableTo" ReflectliteType.assignableTo
def zLk : Array Value → Sem Value := ReflectliteValue.method (ReflectliteValue.valueError "reflectlite.Value.Elem" 0) ReflectliteValue.elem
def unpF : Array Value → Sem Value := fun args => ReflectliteValue.unpack (args.getD 0 (.tuple #[]))
def setF : Array Value → Sem Value := ReflectliteValue.set
theorem as_unpP (t : Addr) (w : World) : (unpF #[.iface 245 (.pointer (some t))]).run Tryz.prog w = .ok (valP ⟨w.heap.size, 0, none⟩) (w.alloc (.cells #[.pointer (some t)] 245)) := by kernel_rfl
theorem as_type (a : Addr) (w : World) : (typeF #[valP a]).run Tryz.prog w = .ok (hanV 245) w := by kernel_rfl
theorem as_mKind (h : Value) (w : World) : (Go.method 436 286 (.agg #[h]) "Kind").run Tryz.prog w = .ok (301, h) w := by kernel_rfl
theorem as_kindP (w : World) : (kindF #[.pointer (some ⟨2, 245, none⟩)]).run Tryz.prog w = .ok (.int .u8 22) w := by kernel_rfl
theorem as_kindE (w : World) : (kindF #[.pointer (some ⟨2, 243, none⟩)]).run Tryz.prog w = .ok (.int .u8 6) w := by kernel_rfl
theorem mt1 {m : Array Value → Sort _} (v : Value) (h1 : ∀ v, m #[v]) (h2 : ∀ a, m a) : ReflectliteValue.method.match_2 m #[v] h1 h2 = h1 v := rfl
theorem mt2 {m : Array Value → Sort _} (v x : Value) (h1 : ∀ v x, m #[v, x]) (h2 : ∀ a, m a) : ReflectliteValue.set.match_3 m #[v, x] h1 h2 = h1 v x := rfl
theorem zIT (a : Addr) (w : World) : (ReflectliteValue.parts (valP a)).run Tryz.prog w = .ok (some (245, a, 150)) w := by kernel_rfl
theorem as_isNil (a p : Addr) (W : World) (ha : W.cell? a = some (.pointer (some p))) : (zLj #[valP a]).run Tryz.prog W = .ok (.bool false) W := by
 unfold zLj ReflectliteValue.method;rw [mt1];simp only [Sem.run_bind, zIT, Result.andThen];simp [ReflectliteValue.isNil, loadVar, isAgg, underlying, Tryz.underlying245, ha, Result.andThen]
theorem as_mElem (h : Value) (w : World) : (Go.method 436 286 (.agg #[h]) "Elem").run Tryz.prog w = .ok (318, .agg #[h]) w := by kernel_rfl
theorem as_mImpl (h : Value) (w : World) : (Go.method 436 286 (.agg #[h]) "Implements").run Tryz.prog w = .ok (319, .agg #[h]) w := by kernel_rfl
theorem zLl (h : Value) (w : World) : (Go.method 436 286 (.agg #[h]) "AssignableTo").run Tryz.prog w = .ok (316, .agg #[h]) w := by kernel_rfl
theorem as_elemT (w : World) : (zNr #[.agg #[.pointer (some ⟨2, 245, none⟩)]]).run Tryz.prog w = .ok (hanV 243) w := by kernel_rfl
theorem as_impl (w : World) : (implF #[.agg #[.pointer (some ⟨2, 243, none⟩)], hanV 213]).run Tryz.prog w = .ok (.bool true) w := by kernel_rfl
theorem zLm (w : World) : (asgnF #[.agg #[.pointer (some ⟨2, 243, none⟩)], hanV 243]).run Tryz.prog w = .ok (.bool true) w := by kernel_rfl
theorem as_asgnF (w : World) : (asgnF #[.agg #[.pointer (some ⟨2, 275, none⟩)], hanV 243]).run Tryz.prog w = .ok (.bool false) w := by kernel_rfl
theorem zNs (c : Int) (w : World) : (unpF #[.iface 243 (.int .i64 c)]).run Tryz.prog w = .ok (.agg #[.pointer (some ⟨2, 243, none⟩), .pointer (some ⟨w.heap.size, 0, none⟩), .int .u64 134]) (w.alloc (.cells #[.int .i64 c] 243)) := by kernel_rfl
theorem zNt (w : World) : (Rtype.elem? 245).run Tryz.prog w = .ok (some 243) w := by kernel_rfl
theorem as_mkE (p : Addr) (w : World) : (ReflectliteValue.mk 243 p ReflectliteValue.flagAddr).run Tryz.prog w = .ok (.agg #[.pointer (some ⟨2, 243, none⟩), .pointer (some p), .int .u64 390]) w := by kernel_rfl
theorem zLn (a p : Addr) (W : World) (ha : W.cell? a = some (.pointer (some p))) : (zLk #[valP a]).run Tryz.prog W = .ok (.agg #[.pointer (some ⟨2, 243, none⟩), .pointer (some p), .int .u64 390]) W := by
 unfold zLk ReflectliteValue.method;rw [mt1];simp only [Sem.run_bind, zIT, Result.andThen];simp [ReflectliteValue.elem, loadVar, isAgg, underlying, Tryz.underlying245, ha, Result.andThen, zNt, as_mkE]
theorem zLX (a : Addr) (w : World) : (ReflectliteValue.parts (.agg #[.pointer (some ⟨2, 243, none⟩), .pointer (some a), .int .u64 390])).run Tryz.prog w = .ok (some (243, a, 390)) w := by kernel_rfl
theorem zNu (a : Addr) (w : World) : (ReflectliteValue.parts (.agg #[.pointer (some ⟨2, 243, none⟩), .pointer (some a), .int .u64 134])).run Tryz.prog w = .ok (some (243, a, 134)) w := by kernel_rfl
theorem zNv (w : World) : (Rtype.directlyAssignable 243 243).run Tryz.prog w = .ok true w := by kernel_rfl
theorem as_set (ta b : Addr) (c : Int) (old : Value) (W : World) (hb : W.cell? b = some (.int .i64 c)) (ht : W.cell? ta = some old) (hf : W.frozen? ta = false) :
    (setF #[.agg #[.pointer (some ⟨2, 243, none⟩), .pointer (some ta), .int .u64 390], .agg #[.pointer (some ⟨2, 243, none⟩), .pointer (some b), .int .u64 134]]).run Tryz.prog W = .ok (.tuple #[]) (W.setCell ta (.int .i64 c)) := by
 unfold setF ReflectliteValue.set;rw [mt2];simp only [Sem.run_bind, zLX, zNu, Result.andThen];simp [ReflectliteValue.flagAddr, loadVar, isAgg, underlying, Tryz.underlying243, hb, Result.andThen, zNv, storeVar, Value.cells, storeCells, Addr.add]
 rw [run_store Tryz.prog W ta _ _ (by rfl)];simp [ht, hf]
theorem as_noAsF (v : Value) (xT : TypeId) (w : World) : (Instr.typeAssert (.iface 275 v) xT 291 true).run Tryz.prog w = .ok (.tuple #[.nilIface, .bool false]) w := run_typeAssert_lacksB Tryz.underlying291 (by kernel_rfl) (by kernel_rfl) v xT w
end Go.Proofs.YtcocbafhcpdheaaGreatDoor
