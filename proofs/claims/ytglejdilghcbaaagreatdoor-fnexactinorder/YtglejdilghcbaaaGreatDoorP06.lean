import Derived.Test.YtglejdilghcbaaaGreatDoorP00Box
import Derived.Test.YtglejdilghcbaaaGreatDoorP03
import Derived.LaidEql
import Derived.Stop.Asserts
import Derived.RowKitTokens
import Derived.Test.YtglejdilghcbaaaGreatDoorCards
import Derived.Test.YtglejdilghcbaaaGreatDoorTie
import Derived.ChangeSame
import Derived.ChangeVars
import Derived.JoinedOf
import Derived.RowKit
import Derived.LaidLaws
import Derived.LaidHandle
import Derived.Stop.Joined
namespace Go.Proofs.YtglejdilghcbaaaGreatDoor
set_option maxHeartbeats 4000000
open Go.RowKit Go.Extern.Stop Go.Stop Go.Extern
set_option linter.unusedVariables false
abbrev refV (c : Int) : Value := .iface 225 (.int .i64 c)
abbrev fltV (n c : Int) : Value := .iface 258 (.agg #[.int .i64 n, .iface 225 (.int .i64 c)])
theorem er_typeOf (v : Value) (w : World) : (Extern.ReflectliteType.typeOf #[.iface 225 v]).run Tryz.prog w = .ok (.iface 271 (.agg #[.pointer (some ⟨1, 225, none⟩)])) w := by kernel_rfl
theorem er_typeOfF (v : Value) (w : World) : (Extern.ReflectliteType.typeOf #[.iface 258 v]).run Tryz.prog w = .ok (.iface 271 (.agg #[.pointer (some ⟨1, 258, none⟩)])) w := by kernel_rfl
def compF : Array Value → Sem Value := Extern.ReflectliteType.method fun t => do Extern.Rtype.noPackHeld "Comparable" t; pure (.bool (← typeInfo t).comparable)
theorem er_comp (w : World) : (compF #[.agg #[.pointer (some ⟨1, 225, none⟩)]]).run Tryz.prog w = .ok (.bool true) w := by kernel_rfl
theorem er_mComp (v : Value) (w : World) : (Go.method 421 271 v "Comparable").run Tryz.prog w = .ok (288, v) w := by kernel_rfl
theorem er_isComp : (Tryz.prog.info? 225).map (·.comparable) = some true := by kernel_rfl
theorem er_noIsR (v : Value) (xT : TypeId) (w : World) : (Instr.typeAssert (.iface 225 v) xT 287 true).run Tryz.prog w = .ok (.tuple #[.nilIface, .bool false]) w := run_typeAssert_lacksB Tryz.underlying287 (by kernel_rfl) (by kernel_rfl) v xT w
theorem er_noIsF (v : Value) (xT : TypeId) (w : World) : (Instr.typeAssert (.iface 258 v) xT 287 true).run Tryz.prog w = .ok (.tuple #[.nilIface, .bool false]) w := run_typeAssert_lacksB Tryz.underlying287 (by kernel_rfl) (by kernel_rfl) v xT w
theorem er_noUnR (v : Value) (xT : TypeId) (w : World) : (Instr.typeAssert (.iface 225 v) xT 279 true).run Tryz.prog w = .ok (.tuple #[.nilIface, .bool false]) w := run_typeAssert_lacksB Tryz.underlying279 (by kernel_rfl) (by kernel_rfl) v xT w
theorem er_noUnsR (v : Value) (xT : TypeId) (w : World) : (Instr.typeAssert (.iface 225 v) xT 281 true).run Tryz.prog w = .ok (.tuple #[.nilIface, .bool false]) w := run_typeAssert_lacksB Tryz.underlying281 (by kernel_rfl) (by kernel_rfl) v xT w
theorem er_hasUnF (v : Value) (xT : TypeId) (w : World) : (Instr.typeAssert (.iface 258 v) xT 279 true).run Tryz.prog w = .ok (.tuple #[.iface 258 v, .bool true]) w := run_typeAssert_hasB Tryz.underlying279 (by kernel_rfl) v xT w
theorem er_mUn (v : Value) (w : World) : (Go.method 421 258 v "Unwrap").run Tryz.prog w = .ok (285, v) w := by kernel_rfl
theorem er_eqR (a b : Int) (w : World) : (binOp .eql 193 (.iface 225 (nI a)) (.iface 225 (nI b))).run Tryz.prog w = .ok (.bool (a == b)) w := by
 obtain ⟨i, f, c⟩ := Option.map_eq_some_iff.1 er_isComp;have h : ∀ d : Nat, (Op.equalIn (d + 2) 193 (.iface 225 (nI a)) (.iface 225 (nI b))).run Tryz.prog w = .ok (a == b) w := fun d => by
  simp [Op.equalIn, run_underlying Tryz.underlying193, run_underlying Tryz.underlying225, typeInfo, f, c]
 simp only [binOp];simp [Op.equal, Op.maxDepth, h 9998]
theorem unwrap_any (n c : Int) (w : World) : Calls Tryz.prog 285 #[.agg #[nI n, .iface 225 (nI c)]] w fun e w' => e = .returned (.iface 225 (nI c)) ∧ Bl w w' := by
 have a := box_below w (.cells #[nI n, .iface 225 (nI c)] 258);go_enter Tryz.func285, Tryz.ntmps285;go_wp2;go_ret
 exact ⟨rfl, a⟩
theorem isFault_any (n c d : Int) (w : World) : Calls Tryz.prog 229 #[.iface 258 (.agg #[nI n, .iface 225 (nI c)]), .iface 225 (nI d)] w fun e w' => e = .returned (.bool (c == d)) ∧ Bl w w' := by
 have h8 := @run_callFunc_extern Tryz.prog 243 _ Extern.ReflectliteType.typeOf Tryz.func243 (by kernel_rfl) (by kernel_rfl) (by kernel_rfl) (by kernel_rfl);have j := @run_callFunc_extern Tryz.prog 288 _ compF Tryz.func288 (by kernel_rfl) (by kernel_rfl) (by kernel_rfl) (by kernel_rfl);have tT := er_typeOf;have cT := er_comp;have mR := er_mComp;have n1 := er_noIsR;have n2 := er_noIsF;have n3 := er_noUnR;have n4 := er_noUnsR;have n5 := er_hasUnF;have mU := er_mUn;have i : ∀ W, (binOp .eql 193 (.iface 258 (.agg #[nI n, .iface 225 (nI c)])) (.iface 225 (nI d))).run Tryz.prog W = .ok (.bool false) W := fun W => run_eql_iface_types (P := Tryz.prog) 258 225 _ _ Tryz.underlying193 (by decide) W;have a : ∀ W, _ := fun W => er_eqR c d W;generalize g : (c == d) = q at a ⊢;go_enter Tryz.func229, Tryz.ntmps229;go_wp2_with go_in
 refine wp_loop_rounds 2 ?_;rw [rounds_succ];go_wp2_with (go_at_call 285; refine (unwrap_any _ _ _).mono ?_; rintro e k ⟨rfl, b⟩)
 rw [rounds_succ];have f : Hid (Bl w k) := b;clear b g;cases q
 ·go_wp2;go_ret
  exact ⟨rfl, f.out⟩
 ·go_wp2;go_ret
  exact ⟨rfl, f.out⟩
def Hold (w : World) : Prop := w.cell? ⟨0, 0, none⟩ = some (.iface 271 (.agg #[.pointer (some ⟨1, 193, none⟩)]))
theorem Hold.lt {w : World} (h : Hold w) : 0 < w.heap.size := cell_lt h
theorem Hold.goes {w W : World} (h : Hold w) (hb : Bl w W) : Hold W := cell_keep hb h h.lt
abbrev hanV (t : Nat) : Value := .iface 271 (.agg #[.pointer (some ⟨1, t, none⟩)])
abbrev valP (a : Addr) : Value := .agg #[.pointer (some ⟨1, 227, none⟩), .pointer (some a), .int .u64 150]
abbrev valO (a : Addr) : Obj := .cells #[.pointer (some ⟨1, 227, none⟩), .pointer (some a), .int .u64 150] 248
def typeF : Array Value → Sem Value := ReflectliteValue.methodAny (ReflectliteValue.valueError "reflectlite.Value.Type" 0) (fun t _ _ _ => ReflectliteType.toType t)
def kindF : Array Value → Sem Value := ReflectliteType.abiMethod fun t => do pure (.int .u8 (← Rtype.kind t))
def isNilF : Array Value → Sem Value := ReflectliteValue.method (ReflectliteValue.valueError "reflectlite.Value.IsNil" 0) ReflectliteValue.isNil
def elemTF : Array Value → Sem Value := ReflectliteType.method ReflectliteType.elem
def implF : Array Value → Sem Value := ReflectliteType.relation "Implements" ReflectliteType.implements_
def asgnF : Array Value → Sem Value := ReflectliteType.relation "AssignableTo" ReflectliteType.assignableTo
def elemVF : Array Value → Sem Value := ReflectliteValue.method (ReflectliteValue.valueError "reflectlite.Value.Elem" 0) ReflectliteValue.elem
def unpF : Array Value → Sem Value := fun args => ReflectliteValue.unpack (args.getD 0 (.tuple #[]))
def setF : Array Value → Sem Value := ReflectliteValue.set
theorem as_unpP (t : Addr) (w : World) : (unpF #[.iface 227 (.pointer (some t))]).run Tryz.prog w = .ok (valP ⟨w.heap.size, 0, none⟩) (w.alloc (.cells #[.pointer (some t)] 227)) := by kernel_rfl
theorem as_type (a : Addr) (w : World) : (typeF #[valP a]).run Tryz.prog w = .ok (hanV 227) w := by kernel_rfl
theorem as_mKind (h : Value) (w : World) : (Go.method 421 271 (.agg #[h]) "Kind").run Tryz.prog w = .ok (271, h) w := by kernel_rfl
theorem as_kindP (w : World) : (kindF #[.pointer (some ⟨1, 227, none⟩)]).run Tryz.prog w = .ok (.int .u8 22) w := by kernel_rfl
theorem as_kindE (w : World) : (kindF #[.pointer (some ⟨1, 225, none⟩)]).run Tryz.prog w = .ok (.int .u8 6) w := by kernel_rfl
theorem mt1 {m : Array Value → Sort _} (v : Value) (h1 : ∀ v, m #[v]) (h2 : ∀ a, m a) : ReflectliteValue.method.match_2 m #[v] h1 h2 = h1 v := rfl
theorem mt2 {m : Array Value → Sort _} (v x : Value) (h1 : ∀ v x, m #[v, x]) (h2 : ∀ a, m a) : ReflectliteValue.set.match_3 m #[v, x] h1 h2 = h1 v x := rfl
theorem as_partsP (a : Addr) (w : World) : (ReflectliteValue.parts (valP a)).run Tryz.prog w = .ok (some (227, a, 150)) w := by kernel_rfl
theorem as_isNil (a p : Addr) (W : World) (ha : W.cell? a = some (.pointer (some p))) : (isNilF #[valP a]).run Tryz.prog W = .ok (.bool false) W := by
 unfold isNilF ReflectliteValue.method;rw [mt1];simp only [Sem.run_bind, as_partsP, Result.andThen];simp [ReflectliteValue.isNil, loadVar, isAgg, underlying, Tryz.underlying227, ha, Result.andThen]
theorem as_mElem (h : Value) (w : World) : (Go.method 421 271 (.agg #[h]) "Elem").run Tryz.prog w = .ok (289, .agg #[h]) w := by kernel_rfl
theorem as_mImpl (h : Value) (w : World) : (Go.method 421 271 (.agg #[h]) "Implements").run Tryz.prog w = .ok (290, .agg #[h]) w := by kernel_rfl
theorem as_mAsgn (h : Value) (w : World) : (Go.method 421 271 (.agg #[h]) "AssignableTo").run Tryz.prog w = .ok (287, .agg #[h]) w := by kernel_rfl
theorem as_elemT (w : World) : (elemTF #[.agg #[.pointer (some ⟨1, 227, none⟩)]]).run Tryz.prog w = .ok (hanV 225) w := by kernel_rfl
theorem as_impl (w : World) : (implF #[.agg #[.pointer (some ⟨1, 225, none⟩)], hanV 193]).run Tryz.prog w = .ok (.bool true) w := by kernel_rfl
theorem as_asgnR (w : World) : (asgnF #[.agg #[.pointer (some ⟨1, 225, none⟩)], hanV 225]).run Tryz.prog w = .ok (.bool true) w := by kernel_rfl
theorem as_asgnF (w : World) : (asgnF #[.agg #[.pointer (some ⟨1, 258, none⟩)], hanV 225]).run Tryz.prog w = .ok (.bool false) w := by kernel_rfl
theorem as_unpE (c : Int) (w : World) : (unpF #[.iface 225 (nI c)]).run Tryz.prog w = .ok (.agg #[.pointer (some ⟨1, 225, none⟩), .pointer (some ⟨w.heap.size, 0, none⟩), .int .u64 134]) (w.alloc (.cells #[nI c] 225)) := by kernel_rfl
theorem as_elemOf (w : World) : (Rtype.elem? 227).run Tryz.prog w = .ok (some 225) w := by kernel_rfl
theorem as_mkE (p : Addr) (w : World) : (ReflectliteValue.mk 225 p ReflectliteValue.flagAddr).run Tryz.prog w = .ok (.agg #[.pointer (some ⟨1, 225, none⟩), .pointer (some p), .int .u64 390]) w := by kernel_rfl
theorem as_elemV (a p : Addr) (W : World) (ha : W.cell? a = some (.pointer (some p))) : (elemVF #[valP a]).run Tryz.prog W = .ok (.agg #[.pointer (some ⟨1, 225, none⟩), .pointer (some p), .int .u64 390]) W := by
 unfold elemVF ReflectliteValue.method;rw [mt1];simp only [Sem.run_bind, as_partsP, Result.andThen];simp [ReflectliteValue.elem, loadVar, isAgg, underlying, Tryz.underlying227, ha, Result.andThen, as_elemOf, as_mkE]
theorem as_partsEa (a : Addr) (w : World) : (ReflectliteValue.parts (.agg #[.pointer (some ⟨1, 225, none⟩), .pointer (some a), .int .u64 390])).run Tryz.prog w = .ok (some (225, a, 390)) w := by kernel_rfl
theorem as_partsE (a : Addr) (w : World) : (ReflectliteValue.parts (.agg #[.pointer (some ⟨1, 225, none⟩), .pointer (some a), .int .u64 134])).run Tryz.prog w = .ok (some (225, a, 134)) w := by kernel_rfl
theorem as_direct (w : World) : (Rtype.directlyAssignable 225 225).run Tryz.prog w = .ok true w := by kernel_rfl
theorem as_set (ta b : Addr) (c : Int) (old : Value) (W : World) (hb : W.cell? b = some (nI c)) (ht : W.cell? ta = some old) (hf : W.frozen? ta = false) :
    (setF #[.agg #[.pointer (some ⟨1, 225, none⟩), .pointer (some ta), .int .u64 390], .agg #[.pointer (some ⟨1, 225, none⟩), .pointer (some b), .int .u64 134]]).run Tryz.prog W = .ok (.tuple #[]) (W.setCell ta (nI c)) := by
 unfold setF ReflectliteValue.set;rw [mt2];simp only [Sem.run_bind, as_partsEa, as_partsE, Result.andThen];simp [ReflectliteValue.flagAddr, loadVar, isAgg, underlying, Tryz.underlying225, hb, Result.andThen, as_direct, storeVar, Value.cells, storeCells, Addr.add]
 rw [run_store Tryz.prog W ta _ _ (by rfl)];simp [ht, hf]
theorem as_noAsF (v : Value) (xT : TypeId) (w : World) : (Instr.typeAssert (.iface 258 v) xT 276 true).run Tryz.prog w = .ok (.tuple #[.nilIface, .bool false]) w := run_typeAssert_lacksB Tryz.underlying276 (by kernel_rfl) (by kernel_rfl) v xT w
open Go.ChangeShapes Go.WideShapes Go.RowKit
abbrev holdL : List (String × DataW Unit) := [("errors.errorType", Rows.laid_errors_errorType)]
theorem gEt : Tryz.prog.globalNamed "errors.errorType" = some 0 := by kernel_rfl
theorem gRt : (Tryz.prog.cutTypes.find? (·.1 == "internal/reflectlite.rtype")).map (·.2) = some 271 := by kernel_rfl
theorem gRow : ((List.range 321).filter fun t => Tryz.prog.rowNamed t [101, 114, 114, 111, 114]) = [193] := by kernel_rfl
theorem gSize : Tryz.prog.types.size = 321 := by kernel_rfl
theorem hold_laid {W : World} (h : laidMetH Tryz.prog holdL W) : Hold W := by
 have j : laidMet Tryz.prog [] W ∧ handlesMet Tryz.prog holdL W := h;obtain ⟨a, u, k, l, f, g, m, c⟩ := j.2 _ (List.mem_singleton.2 rfl);have d : a = [101, 114, 114, 111, 114] := (Option.some.inj l).symm;subst d;obtain rfl := Option.some.inj (gRt.symm.trans f);have b : k ∈ (List.range 321).filter fun t => Tryz.prog.rowNamed t [101, 114, 114, 111, 114] := List.mem_filter.2 ⟨List.mem_range.2 (by rw [← gSize]; exact g), m⟩;rw [gRow] at b;obtain rfl := List.mem_singleton.1 b;have i : typeHandle Tryz.prog 193 = .pointer (some ⟨1, 193, none⟩) := by kernel_rfl
 rw [i] at c;unfold Hold;simpa using World.var?_cell gEt c 0
noncomputable def laidWorld (os : Os) : World :=
 { World.holding Tryz.prog os ⟨#[], #[], []⟩ with heap := (World.holding Tryz.prog os ⟨#[], #[], []⟩).heap.modify 0 fun
     | .cells _ t frozen => .cells #[.iface 271 (.agg #[.pointer (some ⟨1, 193, none⟩)])] t frozen
     | o => o }
theorem laid_met (os : Os) (args : Array Value) : laidMetH Tryz.prog holdL ((laidWorld os).forCall (fun _ _ => 0) ⟨#[], args, []⟩).memory :=
 laidMetH_of_parts (laidMet_nil _ _) (by kernel_rfl)
open Go.ChangeShapes Go.WideShapes Go.ChangeAt Go.RowKit
abbrev OpD := Int × Int × Int × Int
abbrev opR : Rep OpD := prodR intR (prodR intR (prodR intR intR))
abbrev opM : Mk OpD := prodM intM (prodM intM (prodM intM intM))
abbrev opsR : Rep (List OpD) := slR 69 opR
abbrev opsM : Mk (List OpD) := slM opM
def In4 (u : OpD) : Prop := In64 u.1 ∧ In64 u.2.1 ∧ In64 u.2.2.1 ∧ In64 u.2.2.2
theorem opens_op : Opens Tryz.prog 103 opR :=
 opens_struct Tryz.underlying103 (by kernel_rfl) (opensF_cons rfl (by kernel_rfl) opens_i64 (opensF_cons rfl (by kernel_rfl) opens_i64 (opensF_cons rfl (by kernel_rfl) opens_i64 (opensF_one rfl (by kernel_rfl) opens_i64))))
theorem opens_ops : Opens Tryz.prog 94 opsR := opens_slice Tryz.underlying94 (by kernel_rfl) (by decide) opens_op
theorem op_rd {w : World} {cs : List Value} {u : OpD} (h : opR.rd w cs u) : cs = [nI u.1, nI u.2.1, nI u.2.2.1, nI u.2.2.2] ∧ In4 u := by
 obtain ⟨c0, e0, rfl, ⟨rfl, c⟩, c1, e1, rfl, ⟨rfl, a⟩, c2, e2, rfl, ⟨rfl, d⟩, ⟨rfl, b⟩⟩ := h;exact ⟨rfl, c, a, d, b⟩
theorem own_op {w : World} {S : Foot} {u : OpD} (h : In4 u) : opR.own w S [nI u.1, nI u.2.1, nI u.2.2.1, nI u.2.2.2] u :=
 ⟨[_], [_, _, _], fun _ => False, S, rfl, ⟨rfl, h.1⟩, ⟨[_], [_, _], fun _ => False, S, rfl, ⟨rfl, h.2.1⟩, ⟨[_], [_], fun _ => False, S, rfl, ⟨rfl, h.2.2.1⟩, ⟨rfl, h.2.2.2⟩, fun _ h => h.elim, Sub.refl _, fun _ h _ => h⟩, fun _ h => h.elim, Sub.refl _, fun _ h _ => h⟩, fun _ h => h.elim, Sub.refl _, fun _ h _ => h⟩
theorem made_op {w w' : World} {u : OpD} (h : In4 u) (hb : Bl w w') : MadeR opR w w' [nI u.1, nI u.2.1, nI u.2.2.1, nI u.2.2.2] u := ⟨own_op h, hb⟩
theorem sumbk_ops (xs : List OpD) : sumbk opM xs = 0 := by
 induction xs with
 | nil => rfl
 | cons x xs ih => simp only [sumbk, List.map_cons, List.sum_cons] at ih ⊢; rw [ih]; rfl
theorem bk_ops (xs : List OpD) : opsM.bk xs = xs.length := by
 have b : opsM.bk xs = xs.length + sumbk opM xs := rfl;rw [b, sumbk_ops]; rfl
theorem op_at {w : World} {a : Option Addr} {xs : List OpD} (h : SlRd opR w a xs) {k : Nat} {x : OpD} (hx : xs[k]? = some x) : ∃ b c, a = some ⟨b, c, none⟩ ∧ w.cell? ⟨b, c + k * 4, none⟩ = some (nI x.1) ∧ w.cell? ⟨b, c + k * 4 + 1, none⟩ = some (nI x.2.1) ∧ w.cell? ⟨b, c + k * 4 + 2, none⟩ = some (nI x.2.2.1) ∧ w.cell? ⟨b, c + k * 4 + 3, none⟩ = some (nI x.2.2.2) ∧ In4 x := by
 obtain ⟨b, c, cs, rfl, f, d⟩ := slrd_at h hx;obtain ⟨rfl, g⟩ := op_rd f;exact ⟨b, c, rfl, d 0 _ rfl, d 1 _ rfl, d 2 _ rfl, d 3 _ rfl, g⟩
theorem szOpS_rep (a : Option Addr) (xs : List OpD) (cap : Nat) (left : Int) (w : World) (h0 : 0 ≤ left) (h1 : left ≤ 1048576) (hm : xs.length ≤ maxLen) :
    Calls Tryz.prog 71 #[sL a xs.length cap, nI left] w fun e w' => e = .returned (nI (szI (opsM.bk xs) left)) ∧ w' = w := by
 have f : xs.length ≤ 9223372036854775807 := hm;rw [bk_ops];by_cases d : (xs.length : Int) ≤ left
 ·have b : Hid (szI xs.length left = _) := szI_yes d;have c : ¬ (left - (xs.length : Int) < 0) := by omega
  go_enter Tryz.func71, Tryz.ntmps71;go_wp2;go_ret
  exact ⟨ret_int b.out.symm, rfl⟩
 ·have b : Hid (szI xs.length left = _) := szI_no d;have c : left - (xs.length : Int) < 0 := by omega
  go_enter Tryz.func71, Tryz.ntmps71;go_wp2;go_ret
  exact ⟨ret_int b.out.symm, rfl⟩
theorem toOp_rep (k a x y : Int) (w : World) :
    Calls Tryz.prog 93 #[.agg #[nI k, nI a, nI x, nI y]] w fun e w' => e = .returned (.agg #[nI k, nI a, nI x, nI y]) ∧ Bl w w' := by
 have b : Hid (∀ o o' o'', Bl w (((w.alloc o).alloc o').alloc o'')) := fun o o' o'' => below_step (below_step (box_below w o) (box_below _ o')) (box_below _ o'');go_enter Tryz.func93, Tryz.ntmps93;go_wp2;refine bodyPost_ret (v := .agg #[nI k, nI a, nI x, nI y]) (by simp [results, Tryz.results93, go_sem]) rfl ⟨rfl, ?_⟩;exact b.out _ _ _
theorem Tryz.infoOp : (Tryz.prog.info? 69).map (fun i => (i.zero, i.size, i.bytes)) = some (some (.agg #[nI 0, nI 0, nI 0, nI 0]), 4, 32) := by kernel_rfl
theorem toOpS_rep (a : Option Addr) (xs : List OpD) (cap : Nat) (w : World) (h : SlRd opR w a xs) (hm : opsM.bk xs ≤ 1048576) :
    Calls Tryz.prog 90 #[sL a xs.length cap] w fun e w' => ∃ v, e = .returned v ∧ MadeR opsR w w' [v] xs := by
 rw [bk_ops] at hm;have M : Hid (SlRd opR w a xs) := h;clear h;have m := run_make_wide (P := Tryz.prog) 62 69 (.agg #[nI 0, nI 0, nI 0, nI 0]) 4 32 Tryz.underlying62 Tryz.infoOp xs.length (by omega) (by omega);go_enter Tryz.func90, Tryz.ntmps90;go_wp2;go_loopw [4] (fun i wr => ∃ k : Nat, k ≤ xs.length ∧ i = nI k ∧ Fill 69 opR w wr xs.length (xs.take k)) (fun i _ => xs.length - (intOf i).toNat)
 case atStart => exact ⟨0, Nat.zero_le _, rfl, by simpa using fillR_start (e := 69) (R := opR) (w0 := w) (n := xs.length) (cs := madeCells #[nI 0, nI 0, nI 0, nI 0] (xs.length * 4)) (by unfold maxLen; omega) (by rw [size_madeCells]; rfl)⟩
 case round =>
  obtain ⟨k, hk, rfl, d⟩ := hrel;by_cases f : k < xs.length
  ·have A : (k : Int) < (xs.length : Int) := by omega
   obtain ⟨x, q⟩ : ∃ x, xs[k]? = some x := ⟨_, List.getElem?_eq_getElem f⟩;obtain ⟨b, H, rfl, K, E, L, D, C⟩ := op_at (slrd_next M.out (fill_below d)) q;have B : Hid (∀ w1 c, MadeR opR wr w1 c x → _) := fun w1 c hm => fillR_step (w1 := w1) (c := c) d (by simp; omega) f hm;have J : Hid (xs.take k ++ [x] = xs.take (k + 1)) := by unfold Hid; rw [List.take_add_one, q]; rfl
   have F : Hid (In4 x) := C;clear q m d C;go_wp2_with fail
   refine (toOp_rep x.1 x.2.1 x.2.2.1 x.2.2.2 _).mono ?_;rintro e w1 ⟨rfl, z⟩;obtain ⟨g, j, o⟩ := B.out _ _ (made_op F.out z);obtain ⟨v0, y⟩ := g 0 (by decide);obtain ⟨v1, s⟩ := g 1 (by decide);obtain ⟨v2, p⟩ := g 2 (by decide);obtain ⟨v3, l⟩ := g 3 (by decide);have z0 := j (k * 4);have z1 := j (k * 4 + 1);have z2 := j (k * 4 + 2);have z3 := j (k * 4 + 3);rw [show k * opR.size + 0 = k * 4 from rfl] at y;rw [show k * opR.size + 1 = k * 4 + 1 from rfl] at s;rw [show k * opR.size + 2 = k * 4 + 2 from rfl] at p;rw [show k * opR.size + 3 = k * 4 + 3 from rfl] at l;rw [J.out] at o;have I : Hid _ := o;clear o z g j B K E L D;go_wp2;go_roundw
   case rel => exact ⟨k + 1, by omega, by go_num, I.out⟩
   case measure => simp [intOf]; omega
  ·have r : k = xs.length := by omega
   subst r;rw [List.take_length] at d;have G := fillR_end d rfl;clear d;go_wp2;go_ret
   exact ⟨_, rfl, G⟩
theorem eqOp_rep (k a x y : Int) (w : World) :
    Calls Tryz.prog 122 #[.agg #[nI k, nI a, nI x, nI y], .agg #[nI k, nI a, nI x, nI y]] w fun e w' => e = .returned (.bool true) ∧ Bl w w' := by
 have b : Hid (∀ o o', Bl w ((w.alloc o).alloc o')) := fun o o' => below_step (box_below w o) (box_below _ o');go_enter Tryz.func122, Tryz.ntmps122;go_wp2;go_ret
 exact ⟨rfl, b.out _ _⟩
theorem eqOpS_rep (a1 a2 : Option Addr) (xs : List OpD) (c1 c2 : Nat) (w : World) (h1 : SlRd opR w a1 xs) (h2 : SlRd opR w a2 xs) (hm : opsM.bk xs ≤ 1152921504606846976) :
    Calls Tryz.prog 119 #[sL a1 xs.length c1, sL a2 xs.length c2] w fun e w' => e = .returned (.bool true) ∧ Bl w w' := by
 rw [bk_ops] at hm;have J : Hid (∀ W, Bl w W → SlRd opR W a1 xs) := fun W hb => slrd_keep h1 fun k E => hb.block k E;have K : Hid (∀ W, Bl w W → SlRd opR W a2 xs) := fun W hb => slrd_keep h2 fun k E => hb.block k E;clear h1 h2;go_enter Tryz.func119, Tryz.ntmps119;go_wp2;go_loopw [5] (fun i wr => ∃ k : Nat, k ≤ xs.length ∧ i = nI k ∧ Bl w wr) (fun i _ => xs.length - (intOf i).toNat)
 case atStart => exact ⟨0, Nat.zero_le _, rfl, Below.refl _ _⟩
 case round =>
  obtain ⟨k, E, rfl, q⟩ := hrel;by_cases G : k < xs.length
  ·have I : (k : Int) < (xs.length : Int) := by omega
   obtain ⟨x, H⟩ : ∃ x, xs[k]? = some x := ⟨_, List.getElem?_eq_getElem G⟩;obtain ⟨D, a, rfl, g, c, j, l, -⟩ := op_at (J.out _ q) H;obtain ⟨f, b, rfl, o, m, p, d, -⟩ := op_at (K.out _ q) H;have C : ∀ n : Cls (fun wx => Bl wr wx), n.w.cell? ⟨D, a + k * 4, none⟩ = some (nI x.1) := fun n => cell_keep n.h g (cell_lt g);have s : ∀ n : Cls (fun wx => Bl wr wx), n.w.cell? ⟨D, a + k * 4 + 1, none⟩ = some (nI x.2.1) := fun n => cell_keep n.h c (cell_lt c);have B : ∀ n : Cls (fun wx => Bl wr wx), n.w.cell? ⟨D, a + k * 4 + 2, none⟩ = some (nI x.2.2.1) := fun n => cell_keep n.h j (cell_lt j);have A : ∀ n : Cls (fun wx => Bl wr wx), n.w.cell? ⟨D, a + k * 4 + 3, none⟩ = some (nI x.2.2.2) := fun n => cell_keep n.h l (cell_lt l);have y : ∀ n : Cls (fun wx => Bl wr wx), n.w.cell? ⟨f, b + k * 4, none⟩ = some (nI x.1) := fun n => cell_keep n.h o (cell_lt o);have v : ∀ n : Cls (fun wx => Bl wr wx), n.w.cell? ⟨f, b + k * 4 + 1, none⟩ = some (nI x.2.1) := fun n => cell_keep n.h m (cell_lt m);have z : ∀ n : Cls (fun wx => Bl wr wx), n.w.cell? ⟨f, b + k * 4 + 2, none⟩ = some (nI x.2.2.1) := fun n => cell_keep n.h p (cell_lt p);have r : ∀ n : Cls (fun wx => Bl wr wx), n.w.cell? ⟨f, b + k * 4 + 3, none⟩ = some (nI x.2.2.2) := fun n => cell_keep n.h d (cell_lt d);clear H g c j l o m p d;go_wp2_with fail
   refine region_class (fun wx => Bl wr wx) (by kernel_rfl) (by kernel_rfl) ((Below.refl _ wr).drew) ?_;intro F;repeat (quiet_step ((go_at_call 122; exact calls_class (eqOp_rep x.1 x.2.1 x.2.2.1 x.2.2.2 _) (fun w' hc bb => below_step hc bb))))
   refine wpQuiet_nil ?_;intro wx f;replace q := below_step q f;clear f F C y s v B z A r;go_wp2;go_roundw
   case rel => exact ⟨k + 1, by omega, by go_num, q⟩
   case measure => simp [intOf]; omega
  ·go_wp2;go_ret
   exact ⟨rfl, q⟩
abbrev CfgD := Int × Int × Int × Int
abbrev cfgR : Rep CfgD := prodR intR (prodR intR (prodR intR intR))
theorem opens_cfg : Opens Tryz.prog 23 cfgR :=
 opens_struct Tryz.underlying23 (by kernel_rfl) (opensF_cons rfl (by kernel_rfl) opens_i64 (opensF_cons rfl (by kernel_rfl) opens_i64 (opensF_cons rfl (by kernel_rfl) opens_i64 (opensF_one rfl (by kernel_rfl) opens_i64))))
theorem cfg_rd {w : World} {cs : List Value} {u : CfgD} (h : cfgR.rd w cs u) : cs = [nI u.1, nI u.2.1, nI u.2.2.1, nI u.2.2.2] ∧ In64 u.1 ∧ In64 u.2.1 ∧ In64 u.2.2.1 ∧ In64 u.2.2.2 := by
 obtain ⟨c0, e0, rfl, ⟨rfl, c⟩, c1, e1, rfl, ⟨rfl, a⟩, c2, e2, rfl, ⟨rfl, d⟩, ⟨rfl, b⟩⟩ := h;exact ⟨rfl, c, a, d, b⟩
abbrev cfgM : Mk CfgD := prodM intM (prodM intM (prodM intM intM))
theorem op_rd4 {w : World} {cs : List Value} {u : OpD} (h : opR.rd w cs u) : cs = [nI u.1, nI u.2.1, nI u.2.2.1, nI u.2.2.2] ∧ True := ⟨(op_rd h).1, trivial⟩
theorem cfg_rd4 {w : World} {cs : List Value} {u : CfgD} (h : cfgR.rd w cs u) : cs = [nI u.1, nI u.2.1, nI u.2.2.1, nI u.2.2.2] ∧ True := ⟨(cfg_rd h).1, trivial⟩
theorem own_cfg {w : World} {S : Foot} {u : CfgD} (i0 : In64 u.1) (i1 : In64 u.2.1) (i2 : In64 u.2.2.1) (i3 : In64 u.2.2.2) : cfgR.own w S [nI u.1, nI u.2.1, nI u.2.2.1, nI u.2.2.2] u := own_op (u := u) ⟨i0, i1, i2, i3⟩
theorem toOp_u : ToC 93 opR opM aggV := by
 intro cs x w h hm;obtain ⟨rfl, a⟩ := op_rd h;refine (toOp_rep x.1 x.2.1 x.2.2.1 x.2.2.2 w).mono ?_;rintro e w' ⟨rfl, b⟩;exact ⟨[_, _, _, _], rfl, own_op a, b⟩
theorem eqOp_u : EqC 122 opR opM aggV := by
 intro cs ds x w h k hm;obtain ⟨rfl, -⟩ := op_rd h;obtain ⟨rfl, -⟩ := op_rd k;exact eqOp_rep x.1 x.2.1 x.2.2.1 x.2.2.2 w
theorem toConfig_rep (k a x y : Int) (w : World) :
    Calls Tryz.prog 17 #[.agg #[nI k, nI a, nI x, nI y]] w fun e w' => e = .returned (.agg #[nI k, nI a, nI x, nI y]) ∧ Bl w w' := by
 have b : Hid (∀ o o' o'', Bl w (((w.alloc o).alloc o').alloc o'')) := fun o o' o'' => below_step (below_step (box_below w o) (box_below _ o')) (box_below _ o'');go_enter Tryz.func17, Tryz.ntmps17;go_wp2;refine bodyPost_ret (v := .agg #[nI k, nI a, nI x, nI y]) (by simp [results, Tryz.results17, go_sem]) rfl ⟨rfl, ?_⟩;exact b.out _ _ _
theorem toConfig_u : ToC 17 cfgR cfgM aggV := by
 intro cs x w h hm;obtain ⟨rfl, d, a, f, c⟩ := cfg_rd h;refine (toConfig_rep x.1 x.2.1 x.2.2.1 x.2.2.2 w).mono ?_;rintro e w' ⟨rfl, b⟩;exact ⟨[_, _, _, _], rfl, own_cfg d a f c, b⟩
theorem eqConfig_rep (k a x y : Int) (w : World) :
    Calls Tryz.prog 25 #[.agg #[nI k, nI a, nI x, nI y], .agg #[nI k, nI a, nI x, nI y]] w fun e w' => e = .returned (.bool true) ∧ Bl w w' := by
 have b : Hid (∀ o o', Bl w ((w.alloc o).alloc o')) := fun o o' => below_step (box_below w o) (box_below _ o');go_enter Tryz.func25, Tryz.ntmps25;go_wp2;go_ret
 exact ⟨rfl, b.out _ _⟩
theorem eqConfig_u : EqC 25 cfgR cfgM aggV := by
 intro cs ds x w h k hm;obtain ⟨rfl, -⟩ := cfg_rd h;obtain ⟨rfl, -⟩ := cfg_rd k;exact eqConfig_rep x.1 x.2.1 x.2.2.1 x.2.2.2 w
abbrev wayR : Rep (Int × Int × List Int) := prodR intR (prodR intR intsR)
abbrev wayM : Mk (Int × Int × List Int) := prodM intM (prodM intM intsM)
abbrev waysR : Rep (List (Int × Int × List Int)) := slR 64 wayR
abbrev waysM : Mk (List (Int × Int × List Int)) := slM wayM
abbrev setsR : Rep (List (List (Int × Int × List Int))) := slR 112 waysR
abbrev setsM : Mk (List (List (Int × Int × List Int))) := slM waysM
abbrev cacheR : Rep (List (List (Int × Int × List Int)) × List Int) := prodR setsR intsR
abbrev cacheM : Mk (List (List (Int × Int × List Int)) × List Int) := prodM setsM intsM
theorem opens_way : Opens Tryz.prog 95 wayR :=
 opens_struct Tryz.underlying95 (by kernel_rfl) (opensF_cons rfl (by kernel_rfl) opens_i64 (opensF_cons rfl (by kernel_rfl) opens_i64 (opensF_one rfl (by kernel_rfl) opens_ints)))
theorem opens_ways : Opens Tryz.prog 202 waysR := opens_slice Tryz.underlying202 (by kernel_rfl) (by decide) opens_way
theorem opens_sets : Opens Tryz.prog 91 setsR := opens_slice Tryz.underlying91 (by kernel_rfl) (by decide) opens_ways
theorem opens_cache : Opens Tryz.prog 93 cacheR :=
 opens_struct Tryz.underlying93 (by kernel_rfl) (opensF_cons rfl (by kernel_rfl) opens_sets (opensF_one rfl (by kernel_rfl) opens_ints))
theorem way_rd {w : World} {cs : List Value} {u : Int × Int × List Int} (h : wayR.rd w cs u) :
    ∃ a b, cs = [nI u.1, nI u.2.1, sL a u.2.2.length b] ∧ In64 u.1 ∧ In64 u.2.1 ∧ u.2.2.length ≤ b ∧ b ≤ maxLen ∧ SlRd intR w a u.2.2 := by
 obtain ⟨c1, c2, rfl, ⟨rfl, c⟩, c3, c4, rfl, ⟨rfl, i⟩, a, b, rfl, f, g, d⟩ := h;exact ⟨a, b, rfl, c, i, f, g, d⟩
theorem cache_rd {w : World} {cs : List Value} {c : List (List (Int × Int × List Int)) × List Int} (h : cacheR.rd w cs c) :
    ∃ a d b f, cs = [sL a c.1.length d, sL b c.2.length f] ∧ c.1.length ≤ d ∧ d ≤ maxLen ∧ c.2.length ≤ f ∧ f ≤ maxLen ∧ SlRd waysR w a c.1 ∧ SlRd intR w b c.2 := by
 obtain ⟨c1, c2, rfl, ⟨a, d, rfl, j, l, g⟩, b, f, rfl, m, k, i⟩ := h;exact ⟨a, d, b, f, rfl, j, l, m, k, g, i⟩
theorem own_way {w : World} {S : Foot} {l s : Int} {d : List Int} {v : Value} (i1 : In64 l) (i2 : In64 s) (h : intsR.own w S [v] d) : wayR.own w S [nI l, nI s, v] (l, s, d) :=
 ⟨[_], [_, _], fun _ => False, S, rfl, ⟨rfl, i1⟩, ⟨[_], [_], fun _ => False, S, rfl, ⟨rfl, i2⟩, h, fun _ h => h.elim, Sub.refl _, fun _ h _ => h⟩, fun _ h => h.elim, Sub.refl _, fun _ h _ => h⟩
theorem szWay_rep (l s : Int) (d : List Int) (a : Option Addr) (cap : Nat) (left : Int) (w : World) (h0 : 0 ≤ left) (h1 : left ≤ 1048576) (hm : d.length ≤ maxLen) :
    Calls Tryz.prog 72 #[.agg #[nI l, nI s, sL a d.length cap], nI left] w fun e c => e = .returned (nI (szI (wayM.bk (l, s, d)) left)) ∧ Bl w c := by
 have i : wayM.bk (l, s, d) = intsM.bk d := by show 0 + (0 + intsM.bk d) = _; omega
 rw [i];by_cases f : (intsM.bk d : Int) ≤ left
 ·have b : Hid (szI (intsM.bk d) left = _) := szI_yes f;have g : ¬ (left - (intsM.bk d : Int) < 0) := by omega
  go_enter Tryz.func72, Tryz.ntmps72;go_wp2_with (go_at_call 68; refine (szInt64S_rep _ d _ _ _ h0 h1 hm).mono ?_; rintro e c ⟨rfl, rfl⟩; rw [b.out])
  go_ret
  exact ⟨ret_int b.out.symm, box_below w _⟩
 ·have b : Hid (szI (intsM.bk d) left = _) := szI_no f;go_enter Tryz.func72, Tryz.ntmps72;go_wp2_with (go_at_call 68; refine (szInt64S_rep _ d _ _ _ h0 h1 hm).mono ?_; rintro e c ⟨rfl, rfl⟩; rw [b.out])
  go_ret
  exact ⟨ret_int b.out.symm, box_below w _⟩
end Go.Proofs.YtglejdilghcbaaaGreatDoor
