import Derived.Test.YtcocbafhcpdheaaGreatDoorS00Box
import Derived.Test.YtcocbafhcpdheaaGreatDoorS03
import Derived.LaidEql
import Derived.Stop.Asserts
import Derived.RowKitTokens
import Derived.Test.YtcocbafhcpdheaaGreatDoorCards
import Derived.Test.YtcocbafhcpdheaaGreatDoorTie
import Derived.ChangeSame
import Derived.ChangeVars
import Derived.JoinedOf
import Derived.RowKit
import Derived.LaidLaws
import Derived.LaidHandle
import Derived.Stop.Joined
namespace Go.Proofs.YtcocbafhcpdheaaGreatDoor
set_option maxHeartbeats 4000000
open Go.RowKit Go.Extern.Stop Go.Stop Go.Extern
set_option linter.unusedVariables false
abbrev refV (c : Int) : Value := .iface 243 (.int .i64 c)
abbrev fltV (n c : Int) : Value := .iface 275 (.agg #[.int .i64 n, .iface 243 (.int .i64 c)])
theorem er_typeOf (v : Value) (w : World) : (Extern.ReflectliteType.typeOf #[.iface 243 v]).run Tryz.prog w = .ok (.iface 286 (.agg #[.pointer (some ⟨2, 243, none⟩)])) w := by kernel_rfl
theorem er_typeOfF (v : Value) (w : World) : (Extern.ReflectliteType.typeOf #[.iface 275 v]).run Tryz.prog w = .ok (.iface 286 (.agg #[.pointer (some ⟨2, 275, none⟩)])) w := by kernel_rfl
def compF : Array Value → Sem Value := Extern.ReflectliteType.method fun t => do Extern.Rtype.noPackHeld "Comparable" t; pure (.bool (← typeInfo t).comparable)
theorem er_comp (w : World) : (compF #[.agg #[.pointer (some ⟨2, 243, none⟩)]]).run Tryz.prog w = .ok (.bool true) w := by kernel_rfl
theorem er_mComp (v : Value) (w : World) : (Go.method 436 286 v "Comparable").run Tryz.prog w = .ok (317, v) w := by kernel_rfl
theorem er_isComp : (Tryz.prog.info? 243).map (·.comparable) = some true := by kernel_rfl
theorem er_noIsR (v : Value) (xT : TypeId) (w : World) : (Instr.typeAssert (.iface 243 v) xT 302 true).run Tryz.prog w = .ok (.tuple #[.nilIface, .bool false]) w := run_typeAssert_lacksB Tryz.underlying302 (by kernel_rfl) (by kernel_rfl) v xT w
theorem er_noIsF (v : Value) (xT : TypeId) (w : World) : (Instr.typeAssert (.iface 275 v) xT 302 true).run Tryz.prog w = .ok (.tuple #[.nilIface, .bool false]) w := run_typeAssert_lacksB Tryz.underlying302 (by kernel_rfl) (by kernel_rfl) v xT w
theorem er_noUnR (v : Value) (xT : TypeId) (w : World) : (Instr.typeAssert (.iface 243 v) xT 294 true).run Tryz.prog w = .ok (.tuple #[.nilIface, .bool false]) w := run_typeAssert_lacksB Tryz.underlying294 (by kernel_rfl) (by kernel_rfl) v xT w
theorem er_noUnsR (v : Value) (xT : TypeId) (w : World) : (Instr.typeAssert (.iface 243 v) xT 296 true).run Tryz.prog w = .ok (.tuple #[.nilIface, .bool false]) w := run_typeAssert_lacksB Tryz.underlying296 (by kernel_rfl) (by kernel_rfl) v xT w
theorem er_hasUnF (v : Value) (xT : TypeId) (w : World) : (Instr.typeAssert (.iface 275 v) xT 294 true).run Tryz.prog w = .ok (.tuple #[.iface 275 v, .bool true]) w := run_typeAssert_hasB Tryz.underlying294 (by kernel_rfl) v xT w
theorem er_mUn (v : Value) (w : World) : (Go.method 436 275 v "Unwrap").run Tryz.prog w = .ok (314, v) w := by kernel_rfl
theorem er_eqR (a b : Int) (w : World) : (binOp .eql 213 (.iface 243 (.int .i64 a)) (.iface 243 (.int .i64 b))).run Tryz.prog w = .ok (.bool (a == b)) w := by
 obtain ⟨i, f, c⟩ := Option.map_eq_some_iff.1 er_isComp;have h : ∀ d : Nat, (Op.equalIn (d + 2) 213 (.iface 243 (.int .i64 a)) (.iface 243 (.int .i64 b))).run Tryz.prog w = .ok (a == b) w := fun d => by
  simp [Op.equalIn, run_underlying Tryz.underlying213, run_underlying Tryz.underlying243, typeInfo, f, c]
 simp only [binOp];simp [Op.equal, Op.maxDepth, h 9998]
theorem unwrap_any (n c : Int) (w : World) : Calls Tryz.prog 314 #[.agg #[.int .i64 n, .iface 243 (.int .i64 c)]] w fun e w' => e = .returned (.iface 243 (.int .i64 c)) ∧ Below w.heap.size w w' := by
 have a := box_below w (.cells #[.int .i64 n, .iface 243 (.int .i64 c)] 275);go_enter Tryz.func314, Tryz.ntmps314;go_wp2;go_ret
 exact ⟨rfl, a⟩
theorem isFault_any (n c d : Int) (w : World) : Calls Tryz.prog 261 #[.iface 275 (.agg #[.int .i64 n, .iface 243 (.int .i64 c)]), .iface 243 (.int .i64 d)] w fun e w' => e = .returned (.bool (c == d)) ∧ Below w.heap.size w w' := by
 have h8 := @run_callFunc_extern Tryz.prog 273 _ Extern.ReflectliteType.typeOf Tryz.func273 (by kernel_rfl) (by kernel_rfl) (by kernel_rfl) (by kernel_rfl);have j := @run_callFunc_extern Tryz.prog 317 _ compF Tryz.func317 (by kernel_rfl) (by kernel_rfl) (by kernel_rfl) (by kernel_rfl);have tT := er_typeOf;have cT := er_comp;have mR := er_mComp;have n1 := er_noIsR;have n2 := er_noIsF;have n3 := er_noUnR;have n4 := er_noUnsR;have n5 := er_hasUnF;have mU := er_mUn;have i : ∀ W, (binOp .eql 213 (.iface 275 (.agg #[.int .i64 n, .iface 243 (.int .i64 c)])) (.iface 243 (.int .i64 d))).run Tryz.prog W = .ok (.bool false) W := fun W => run_eql_iface_types (P := Tryz.prog) 275 243 _ _ Tryz.underlying213 (by decide) W;have a : ∀ W, _ := fun W => er_eqR c d W;generalize k : (c == d) = q at a ⊢;go_enter Tryz.func261, Tryz.ntmps261;go_wp2_with go_in
 refine wp_loop_rounds 2 ?_;rw [rounds_succ];go_wp2_with (go_at_call 314; refine (unwrap_any _ _ _).mono ?_; rintro e g ⟨rfl, f⟩)
 rw [rounds_succ];have b : Hid (Below w.heap.size w g) := f;clear f k;cases q
 ·go_wp2;go_ret
  exact ⟨rfl, b.out⟩
 ·go_wp2;go_ret
  exact ⟨rfl, b.out⟩
def Hold (w : World) : Prop := w.cell? ⟨1, 0, none⟩ = some (.iface 286 (.agg #[.pointer (some ⟨2, 213, none⟩)]))
theorem Hold.lt {w : World} (h : Hold w) : 1 < w.heap.size := cell_lt h
theorem Hold.goes {w W : World} (h : Hold w) (hb : Below w.heap.size w W) : Hold W := cell_keep hb h h.lt
abbrev hanV (t : Nat) : Value := .iface 286 (.agg #[.pointer (some ⟨2, t, none⟩)])
abbrev valP (a : Addr) : Value := .agg #[.pointer (some ⟨2, 245, none⟩), .pointer (some a), .int .u64 150]
abbrev valO (a : Addr) : Obj := .cells #[.pointer (some ⟨2, 245, none⟩), .pointer (some a), .int .u64 150] 265
def typeF : Array Value → Sem Value := ReflectliteValue.methodAny (ReflectliteValue.valueError "reflectlite.Value.Type" 0) (fun t _ _ _ => ReflectliteType.toType t)
def kindF : Array Value → Sem Value := ReflectliteType.abiMethod fun t => do pure (.int .u8 (← Rtype.kind t))
def isNilF : Array Value → Sem Value := ReflectliteValue.method (ReflectliteValue.valueError "reflectlite.Value.IsNil" 0) ReflectliteValue.isNil
def elemTF : Array Value → Sem Value := ReflectliteType.method ReflectliteType.elem
def implF : Array Value → Sem Value := ReflectliteType.relation "Implements" ReflectliteType.implements_
def asgnF : Array Value → Sem Value := ReflectliteType.relation "AssignableTo" ReflectliteType.assignableTo
def elemVF : Array Value → Sem Value := ReflectliteValue.method (ReflectliteValue.valueError "reflectlite.Value.Elem" 0) ReflectliteValue.elem
def unpF : Array Value → Sem Value := fun args => ReflectliteValue.unpack (args.getD 0 (.tuple #[]))
def setF : Array Value → Sem Value := ReflectliteValue.set
theorem as_unpP (t : Addr) (w : World) : (unpF #[.iface 245 (.pointer (some t))]).run Tryz.prog w = .ok (valP ⟨w.heap.size, 0, none⟩) (w.alloc (.cells #[.pointer (some t)] 245)) := by kernel_rfl
theorem as_type (a : Addr) (w : World) : (typeF #[valP a]).run Tryz.prog w = .ok (hanV 245) w := by kernel_rfl
theorem as_mKind (h : Value) (w : World) : (Go.method 436 286 (.agg #[h]) "Kind").run Tryz.prog w = .ok (301, h) w := by kernel_rfl
theorem as_kindP (w : World) : (kindF #[.pointer (some ⟨2, 245, none⟩)]).run Tryz.prog w = .ok (.int .u8 22) w := by kernel_rfl
theorem as_kindE (w : World) : (kindF #[.pointer (some ⟨2, 243, none⟩)]).run Tryz.prog w = .ok (.int .u8 6) w := by kernel_rfl
theorem mt1 {m : Array Value → Sort _} (v : Value) (h1 : ∀ v, m #[v]) (h2 : ∀ a, m a) : ReflectliteValue.method.match_2 m #[v] h1 h2 = h1 v := rfl
theorem mt2 {m : Array Value → Sort _} (v x : Value) (h1 : ∀ v x, m #[v, x]) (h2 : ∀ a, m a) : ReflectliteValue.set.match_3 m #[v, x] h1 h2 = h1 v x := rfl
theorem as_partsP (a : Addr) (w : World) : (ReflectliteValue.parts (valP a)).run Tryz.prog w = .ok (some (245, a, 150)) w := by kernel_rfl
theorem as_isNil (a p : Addr) (W : World) (ha : W.cell? a = some (.pointer (some p))) : (isNilF #[valP a]).run Tryz.prog W = .ok (.bool false) W := by
 unfold isNilF ReflectliteValue.method;rw [mt1];simp only [Sem.run_bind, as_partsP, Result.andThen];simp [ReflectliteValue.isNil, loadVar, isAgg, underlying, Tryz.underlying245, ha, Result.andThen]
theorem as_mElem (h : Value) (w : World) : (Go.method 436 286 (.agg #[h]) "Elem").run Tryz.prog w = .ok (318, .agg #[h]) w := by kernel_rfl
theorem as_mImpl (h : Value) (w : World) : (Go.method 436 286 (.agg #[h]) "Implements").run Tryz.prog w = .ok (319, .agg #[h]) w := by kernel_rfl
theorem as_mAsgn (h : Value) (w : World) : (Go.method 436 286 (.agg #[h]) "AssignableTo").run Tryz.prog w = .ok (316, .agg #[h]) w := by kernel_rfl
theorem as_elemT (w : World) : (elemTF #[.agg #[.pointer (some ⟨2, 245, none⟩)]]).run Tryz.prog w = .ok (hanV 243) w := by kernel_rfl
theorem as_impl (w : World) : (implF #[.agg #[.pointer (some ⟨2, 243, none⟩)], hanV 213]).run Tryz.prog w = .ok (.bool true) w := by kernel_rfl
theorem as_asgnR (w : World) : (asgnF #[.agg #[.pointer (some ⟨2, 243, none⟩)], hanV 243]).run Tryz.prog w = .ok (.bool true) w := by kernel_rfl
theorem as_asgnF (w : World) : (asgnF #[.agg #[.pointer (some ⟨2, 275, none⟩)], hanV 243]).run Tryz.prog w = .ok (.bool false) w := by kernel_rfl
theorem as_unpE (c : Int) (w : World) : (unpF #[.iface 243 (.int .i64 c)]).run Tryz.prog w = .ok (.agg #[.pointer (some ⟨2, 243, none⟩), .pointer (some ⟨w.heap.size, 0, none⟩), .int .u64 134]) (w.alloc (.cells #[.int .i64 c] 243)) := by kernel_rfl
theorem as_elemOf (w : World) : (Rtype.elem? 245).run Tryz.prog w = .ok (some 243) w := by kernel_rfl
theorem as_mkE (p : Addr) (w : World) : (ReflectliteValue.mk 243 p ReflectliteValue.flagAddr).run Tryz.prog w = .ok (.agg #[.pointer (some ⟨2, 243, none⟩), .pointer (some p), .int .u64 390]) w := by kernel_rfl
theorem as_elemV (a p : Addr) (W : World) (ha : W.cell? a = some (.pointer (some p))) : (elemVF #[valP a]).run Tryz.prog W = .ok (.agg #[.pointer (some ⟨2, 243, none⟩), .pointer (some p), .int .u64 390]) W := by
 unfold elemVF ReflectliteValue.method;rw [mt1];simp only [Sem.run_bind, as_partsP, Result.andThen];simp [ReflectliteValue.elem, loadVar, isAgg, underlying, Tryz.underlying245, ha, Result.andThen, as_elemOf, as_mkE]
theorem as_partsEa (a : Addr) (w : World) : (ReflectliteValue.parts (.agg #[.pointer (some ⟨2, 243, none⟩), .pointer (some a), .int .u64 390])).run Tryz.prog w = .ok (some (243, a, 390)) w := by kernel_rfl
theorem as_partsE (a : Addr) (w : World) : (ReflectliteValue.parts (.agg #[.pointer (some ⟨2, 243, none⟩), .pointer (some a), .int .u64 134])).run Tryz.prog w = .ok (some (243, a, 134)) w := by kernel_rfl
theorem as_direct (w : World) : (Rtype.directlyAssignable 243 243).run Tryz.prog w = .ok true w := by kernel_rfl
theorem as_set (ta b : Addr) (c : Int) (old : Value) (W : World) (hb : W.cell? b = some (.int .i64 c)) (ht : W.cell? ta = some old) (hf : W.frozen? ta = false) :
    (setF #[.agg #[.pointer (some ⟨2, 243, none⟩), .pointer (some ta), .int .u64 390], .agg #[.pointer (some ⟨2, 243, none⟩), .pointer (some b), .int .u64 134]]).run Tryz.prog W = .ok (.tuple #[]) (W.setCell ta (.int .i64 c)) := by
 unfold setF ReflectliteValue.set;rw [mt2];simp only [Sem.run_bind, as_partsEa, as_partsE, Result.andThen];simp [ReflectliteValue.flagAddr, loadVar, isAgg, underlying, Tryz.underlying243, hb, Result.andThen, as_direct, storeVar, Value.cells, storeCells, Addr.add]
 rw [run_store Tryz.prog W ta _ _ (by rfl)];simp [ht, hf]
theorem as_noAsF (v : Value) (xT : TypeId) (w : World) : (Instr.typeAssert (.iface 275 v) xT 291 true).run Tryz.prog w = .ok (.tuple #[.nilIface, .bool false]) w := run_typeAssert_lacksB Tryz.underlying291 (by kernel_rfl) (by kernel_rfl) v xT w
open Go.ChangeShapes Go.WideShapes Go.RowKit
abbrev holdL : List (String × DataW Unit) := [("errors.errorType", Rows.laid_errors_errorType)]
theorem gEt : Tryz.prog.globalNamed "errors.errorType" = some 1 := by kernel_rfl
theorem gRt : (Tryz.prog.cutTypes.find? (·.1 == "internal/reflectlite.rtype")).map (·.2) = some 286 := by kernel_rfl
theorem gRow : ((List.range 336).filter fun t => Tryz.prog.rowNamed t [101, 114, 114, 111, 114]) = [213] := by kernel_rfl
theorem gSize : Tryz.prog.types.size = 336 := by kernel_rfl
theorem hold_laid {W : World} (h : laidMetH Tryz.prog holdL W) : Hold W := by
 have k : laidMet Tryz.prog [] W ∧ handlesMet Tryz.prog holdL W := h;obtain ⟨a, u, l, f, i, g, j, b⟩ := k.2 _ (List.mem_singleton.2 rfl);have m : a = [101, 114, 114, 111, 114] := (Option.some.inj f).symm;subst m;obtain rfl := Option.some.inj (gRt.symm.trans i);have c : l ∈ (List.range 336).filter fun t => Tryz.prog.rowNamed t [101, 114, 114, 111, 114] := List.mem_filter.2 ⟨List.mem_range.2 (by rw [← gSize]; exact g), j⟩;rw [gRow] at c;obtain rfl := List.mem_singleton.1 c;have d : typeHandle Tryz.prog 213 = .pointer (some ⟨2, 213, none⟩) := by kernel_rfl
 rw [d] at b;unfold Hold;simpa using World.var?_cell gEt b 0
noncomputable def laidWorld (os : Os) : World :=
 { World.holding Tryz.prog os ⟨#[], #[], []⟩ with heap := (World.holding Tryz.prog os ⟨#[], #[], []⟩).heap.modify 1 fun
     | .cells _ t frozen => .cells #[.iface 286 (.agg #[.pointer (some ⟨2, 213, none⟩)])] t frozen
     | o => o }
theorem laid_met (os : Os) (args : Array Value) : laidMetH Tryz.prog holdL ((laidWorld os).forCall (fun _ _ => 0) ⟨#[], args, []⟩).memory :=
 laidMetH_of_parts (laidMet_nil _ _) (by kernel_rfl)
open Go.ChangeShapes Go.WideShapes Go.ChangeAt Go.RowKit
abbrev OpD := Int × Int × Int × Int
abbrev opR : Rep OpD := prodR intR (prodR intR (prodR intR intR))
abbrev opM : Mk OpD := prodM intM (prodM intM (prodM intM intM))
abbrev opsR : Rep (List OpD) := slR 121 opR
abbrev opsM : Mk (List OpD) := slM opM
def In4 (u : OpD) : Prop := In64 u.1 ∧ In64 u.2.1 ∧ In64 u.2.2.1 ∧ In64 u.2.2.2
theorem opens_op : Opens Tryz.prog 112 opR :=
 opens_struct Tryz.underlying112 (by kernel_rfl) (opensF_cons rfl (by kernel_rfl) opens_i64 (opensF_cons rfl (by kernel_rfl) opens_i64 (opensF_cons rfl (by kernel_rfl) opens_i64 (opensF_one rfl (by kernel_rfl) opens_i64))))
theorem opens_ops : Opens Tryz.prog 102 opsR := opens_slice Tryz.underlying102 (by kernel_rfl) (by decide) opens_op
theorem op_rd {w : World} {cs : List Value} {u : OpD} (h : opR.rd w cs u) : cs = [.int .i64 u.1, .int .i64 u.2.1, .int .i64 u.2.2.1, .int .i64 u.2.2.2] ∧ In4 u := by
 obtain ⟨c0, e0, rfl, ⟨rfl, b⟩, c1, e1, rfl, ⟨rfl, c⟩, c2, e2, rfl, ⟨rfl, d⟩, ⟨rfl, a⟩⟩ := h;exact ⟨rfl, b, c, d, a⟩
theorem own_op {w : World} {S : Foot} {u : OpD} (h : In4 u) : opR.own w S [.int .i64 u.1, .int .i64 u.2.1, .int .i64 u.2.2.1, .int .i64 u.2.2.2] u :=
 ⟨[_], [_, _, _], fun _ => False, S, rfl, ⟨rfl, h.1⟩, ⟨[_], [_, _], fun _ => False, S, rfl, ⟨rfl, h.2.1⟩, ⟨[_], [_], fun _ => False, S, rfl, ⟨rfl, h.2.2.1⟩, ⟨rfl, h.2.2.2⟩, fun _ h => h.elim, Sub.refl _, fun _ h _ => h⟩, fun _ h => h.elim, Sub.refl _, fun _ h _ => h⟩, fun _ h => h.elim, Sub.refl _, fun _ h _ => h⟩
theorem made_op {w w' : World} {u : OpD} (h : In4 u) (hb : Below w.heap.size w w') : MadeR opR w w' [.int .i64 u.1, .int .i64 u.2.1, .int .i64 u.2.2.1, .int .i64 u.2.2.2] u := ⟨own_op h, hb⟩
theorem sumbk_ops (xs : List OpD) : sumbk opM xs = 0 := by
 induction xs with
 | nil => rfl
 | cons x xs ih => simp only [sumbk, List.map_cons, List.sum_cons] at ih ⊢; rw [ih]; rfl
theorem bk_ops (xs : List OpD) : opsM.bk xs = xs.length := by
 have a : opsM.bk xs = xs.length + sumbk opM xs := rfl;rw [a, sumbk_ops]; rfl
theorem cnt_ops (xs : List OpD) : slcnt opM xs = 4 * xs.length := by
 induction xs with
 | nil => rfl
 | cons x xs ih =>
  simp only [slcnt, List.map_cons, List.sum_cons, List.length_cons] at ih ⊢;rw [ih];show 1 + (1 + (1 + 1)) + _ = _
  omega
theorem op_at {w : World} {a : Option Addr} {xs : List OpD} (h : SlRd opR w a xs) {k : Nat} {x : OpD} (hx : xs[k]? = some x) : ∃ b c, a = some ⟨b, c, none⟩ ∧ w.cell? ⟨b, c + k * 4, none⟩ = some (.int .i64 x.1) ∧ w.cell? ⟨b, c + k * 4 + 1, none⟩ = some (.int .i64 x.2.1) ∧ w.cell? ⟨b, c + k * 4 + 2, none⟩ = some (.int .i64 x.2.2.1) ∧ w.cell? ⟨b, c + k * 4 + 3, none⟩ = some (.int .i64 x.2.2.2) ∧ In4 x := by
 obtain ⟨b, c, cs, rfl, f, d⟩ := slrd_at h hx;obtain ⟨rfl, g⟩ := op_rd f;exact ⟨b, c, rfl, d 0 _ rfl, d 1 _ rfl, d 2 _ rfl, d 3 _ rfl, g⟩
theorem szOpS_rep (a : Option Addr) (xs : List OpD) (cap : Nat) (left : Int) (w : World) (h0 : 0 ≤ left) (h1 : left ≤ 1048576) (hm : xs.length ≤ maxLen) :
    Calls Tryz.prog 109 #[.slice a xs.length cap, .int .i64 left] w fun e w' => e = .returned (.int .i64 (szI (opsM.bk xs) left)) ∧ w' = w := by
 have f : xs.length ≤ 9223372036854775807 := hm;rw [bk_ops];by_cases d : (xs.length : Int) ≤ left
 ·have c : Hid (szI xs.length left = _) := szI_yes d;have b : ¬ (left - (xs.length : Int) < 0) := by omega
  go_enter Tryz.func109, Tryz.ntmps109;go_wp2;go_ret
  exact ⟨ret_int c.out.symm, rfl⟩
 ·have c : Hid (szI xs.length left = _) := szI_no d;have b : left - (xs.length : Int) < 0 := by omega
  go_enter Tryz.func109, Tryz.ntmps109;go_wp2;go_ret
  exact ⟨ret_int c.out.symm, rfl⟩
theorem toOp_rep (k a x y : Int) (w : World) :
    Calls Tryz.prog 118 #[.agg #[.int .i64 k, .int .i64 a, .int .i64 x, .int .i64 y]] w fun e w' => e = .returned (.agg #[.int .i64 k, .int .i64 a, .int .i64 x, .int .i64 y]) ∧ Below w.heap.size w w' := by
 have b : Hid (∀ o o' o'', Below w.heap.size w (((w.alloc o).alloc o').alloc o'')) := fun o o' o'' => below_step (below_step (box_below w o) (box_below _ o')) (box_below _ o'');go_enter Tryz.func118, Tryz.ntmps118;go_wp2;refine bodyPost_ret (v := .agg #[.int .i64 k, .int .i64 a, .int .i64 x, .int .i64 y]) (by simp [results, Tryz.results118, go_sem]) rfl ⟨rfl, ?_⟩;exact b.out _ _ _
theorem Tryz.infoOp : (Tryz.prog.info? 121).map (fun i => (i.zero, i.size, i.bytes)) = some (some (.agg #[.int .i64 0, .int .i64 0, .int .i64 0, .int .i64 0]), 4, 32) := by kernel_rfl
theorem toOpS_rep (a : Option Addr) (xs : List OpD) (cap : Nat) (w : World) (h : SlRd opR w a xs) (hm : opsM.bk xs ≤ 1048576) :
    Calls Tryz.prog 115 #[.slice a xs.length cap] w fun e w' => ∃ v, e = .returned v ∧ MadeR opsR w w' [v] xs := by
 rw [bk_ops] at hm;have G : Hid (SlRd opR w a xs) := h;clear h;have y := run_make_wide (P := Tryz.prog) 93 121 (.agg #[.int .i64 0, .int .i64 0, .int .i64 0, .int .i64 0]) 4 32 Tryz.underlying93 Tryz.infoOp xs.length (by omega) (by omega);go_enter Tryz.func115, Tryz.ntmps115;go_wp2;go_loopw [4] (fun i wr => ∃ k : Nat, k ≤ xs.length ∧ i = .int .i64 k ∧ Fill 121 opR w wr xs.length (xs.take k)) (fun i _ => xs.length - (intOf i).toNat)
 case atStart => exact ⟨0, Nat.zero_le _, rfl, by simpa using fillR_start (e := 121) (R := opR) (w0 := w) (n := xs.length) (cs := madeCells #[.int .i64 0, .int .i64 0, .int .i64 0, .int .i64 0] (xs.length * 4)) (by unfold maxLen; omega) (by rw [size_madeCells]; rfl)⟩
 case round =>
  obtain ⟨k, hk, rfl, d⟩ := hrel;by_cases f : k < xs.length
  ·have C : (k : Int) < (xs.length : Int) := by omega
   obtain ⟨x, o⟩ : ∃ x, xs[k]? = some x := ⟨_, List.getElem?_eq_getElem f⟩;obtain ⟨b, E, rfl, F, I, K, H, z⟩ := op_at (slrd_next G.out (fill_below d)) o;have A : Hid (∀ w1 c, MadeR opR wr w1 c x → _) := fun w1 c hm => fillR_step (w1 := w1) (c := c) d (by simp; omega) f hm;have J : Hid (xs.take k ++ [x] = xs.take (k + 1)) := by unfold Hid; rw [List.take_add_one, o]; rfl
   have D : Hid (In4 x) := z;clear o y d z;go_wp2_with fail
   refine (toOp_rep x.1 x.2.1 x.2.2.1 x.2.2.2 _).mono ?_;rintro e w1 ⟨rfl, B⟩;obtain ⟨g, j, l⟩ := A.out _ _ (made_op D.out B);obtain ⟨v0, p⟩ := g 0 (by decide);obtain ⟨v1, m⟩ := g 1 (by decide);obtain ⟨v2, r⟩ := g 2 (by decide);obtain ⟨v3, q⟩ := g 3 (by decide);have z0 := j (k * 4);have z1 := j (k * 4 + 1);have z2 := j (k * 4 + 2);have z3 := j (k * 4 + 3);rw [show k * opR.size + 0 = k * 4 from rfl] at p;rw [show k * opR.size + 1 = k * 4 + 1 from rfl] at m;rw [show k * opR.size + 2 = k * 4 + 2 from rfl] at r;rw [show k * opR.size + 3 = k * 4 + 3 from rfl] at q;rw [J.out] at l;have M : Hid _ := l;clear l B g j A F I K H;go_wp2;go_roundw
   case rel => exact ⟨k + 1, by omega, by go_num, M.out⟩
   case measure => simp [intOf]; omega
  ·have s : k = xs.length := by omega
   subst s;rw [List.take_length] at d;have L := fillR_end d rfl;clear d;go_wp2;go_ret
   exact ⟨_, rfl, L⟩
theorem eqOp_rep (k a x y : Int) (w : World) :
    Calls Tryz.prog 138 #[.agg #[.int .i64 k, .int .i64 a, .int .i64 x, .int .i64 y], .agg #[.int .i64 k, .int .i64 a, .int .i64 x, .int .i64 y]] w fun e w' => e = .returned (.bool true) ∧ Below w.heap.size w w' := by
 have b : Hid (∀ o o', Below w.heap.size w ((w.alloc o).alloc o')) := fun o o' => below_step (box_below w o) (box_below _ o');go_enter Tryz.func138, Tryz.ntmps138;go_wp2;go_ret
 exact ⟨rfl, b.out _ _⟩
theorem eqOpS_rep (a1 a2 : Option Addr) (xs : List OpD) (c1 c2 : Nat) (w : World) (h1 : SlRd opR w a1 xs) (h2 : SlRd opR w a2 xs) (hm : opsM.bk xs ≤ 1152921504606846976) :
    Calls Tryz.prog 135 #[.slice a1 xs.length c1, .slice a2 xs.length c2] w fun e w' => e = .returned (.bool true) ∧ Below w.heap.size w w' := by
 rw [bk_ops] at hm;have J : Hid (∀ W, Below w.heap.size w W → SlRd opR W a1 xs) := fun W hb => slrd_keep h1 fun k E => hb.block k E;have K : Hid (∀ W, Below w.heap.size w W → SlRd opR W a2 xs) := fun W hb => slrd_keep h2 fun k E => hb.block k E;clear h1 h2;go_enter Tryz.func135, Tryz.ntmps135;go_wp2;go_loopw [5] (fun i wr => ∃ k : Nat, k ≤ xs.length ∧ i = .int .i64 k ∧ Below w.heap.size w wr) (fun i _ => xs.length - (intOf i).toNat)
 case atStart => exact ⟨0, Nat.zero_le _, rfl, Below.refl _ _⟩
 case round =>
  obtain ⟨k, E, rfl, q⟩ := hrel;by_cases F : k < xs.length
  ·have I : (k : Int) < (xs.length : Int) := by omega
   obtain ⟨x, G⟩ : ∃ x, xs[k]? = some x := ⟨_, List.getElem?_eq_getElem F⟩;obtain ⟨D, a, rfl, c, g, j, d, -⟩ := op_at (J.out _ q) G;obtain ⟨m, b, rfl, l, p, o, f, -⟩ := op_at (K.out _ q) G;have y : ∀ n : Cls (fun wx => Below wr.heap.size wr wx), n.w.cell? ⟨D, a + k * 4, none⟩ = some (.int .i64 x.1) := fun n => cell_keep n.h c (cell_lt c);have s : ∀ n : Cls (fun wx => Below wr.heap.size wr wx), n.w.cell? ⟨D, a + k * 4 + 1, none⟩ = some (.int .i64 x.2.1) := fun n => cell_keep n.h g (cell_lt g);have r : ∀ n : Cls (fun wx => Below wr.heap.size wr wx), n.w.cell? ⟨D, a + k * 4 + 2, none⟩ = some (.int .i64 x.2.2.1) := fun n => cell_keep n.h j (cell_lt j);have z : ∀ n : Cls (fun wx => Below wr.heap.size wr wx), n.w.cell? ⟨D, a + k * 4 + 3, none⟩ = some (.int .i64 x.2.2.2) := fun n => cell_keep n.h d (cell_lt d);have C : ∀ n : Cls (fun wx => Below wr.heap.size wr wx), n.w.cell? ⟨m, b + k * 4, none⟩ = some (.int .i64 x.1) := fun n => cell_keep n.h l (cell_lt l);have B : ∀ n : Cls (fun wx => Below wr.heap.size wr wx), n.w.cell? ⟨m, b + k * 4 + 1, none⟩ = some (.int .i64 x.2.1) := fun n => cell_keep n.h p (cell_lt p);have v : ∀ n : Cls (fun wx => Below wr.heap.size wr wx), n.w.cell? ⟨m, b + k * 4 + 2, none⟩ = some (.int .i64 x.2.2.1) := fun n => cell_keep n.h o (cell_lt o);have A : ∀ n : Cls (fun wx => Below wr.heap.size wr wx), n.w.cell? ⟨m, b + k * 4 + 3, none⟩ = some (.int .i64 x.2.2.2) := fun n => cell_keep n.h f (cell_lt f);clear G c g j d l p o f;go_wp2_with fail
   refine region_class (fun wx => Below wr.heap.size wr wx) (by kernel_rfl) (by kernel_rfl) ((Below.refl _ wr).drew) ?_;intro H;repeat (quiet_step ((go_at_call 138; exact calls_class (eqOp_rep x.1 x.2.1 x.2.2.1 x.2.2.2 _) (fun w' hc bb => below_step hc bb))))
   refine wpQuiet_nil ?_;intro wx m;replace q := below_step q m;clear m H y C s B r v z A;go_wp2;go_roundw
   case rel => exact ⟨k + 1, by omega, by go_num, q⟩
   case measure => simp [intOf]; omega
  ·go_wp2;go_ret
   exact ⟨rfl, q⟩
abbrev CfgD := Int × Int × Int × Int
abbrev cfgR : Rep CfgD := prodR intR (prodR intR (prodR intR intR))
theorem opens_cfg : Opens Tryz.prog 23 cfgR :=
 opens_struct Tryz.underlying23 (by kernel_rfl) (opensF_cons rfl (by kernel_rfl) opens_i64 (opensF_cons rfl (by kernel_rfl) opens_i64 (opensF_cons rfl (by kernel_rfl) opens_i64 (opensF_one rfl (by kernel_rfl) opens_i64))))
theorem cfg_rd {w : World} {cs : List Value} {u : CfgD} (h : cfgR.rd w cs u) : cs = [.int .i64 u.1, .int .i64 u.2.1, .int .i64 u.2.2.1, .int .i64 u.2.2.2] ∧ In64 u.1 ∧ In64 u.2.1 ∧ In64 u.2.2.1 ∧ In64 u.2.2.2 := by
 obtain ⟨c0, e0, rfl, ⟨rfl, b⟩, c1, e1, rfl, ⟨rfl, c⟩, c2, e2, rfl, ⟨rfl, d⟩, ⟨rfl, a⟩⟩ := h;exact ⟨rfl, b, c, d, a⟩
abbrev cfgM : Mk CfgD := prodM intM (prodM intM (prodM intM intM))
theorem op_rd4 {w : World} {cs : List Value} {u : OpD} (h : opR.rd w cs u) : cs = [.int .i64 u.1, .int .i64 u.2.1, .int .i64 u.2.2.1, .int .i64 u.2.2.2] ∧ True := ⟨(op_rd h).1, trivial⟩
theorem cfg_rd4 {w : World} {cs : List Value} {u : CfgD} (h : cfgR.rd w cs u) : cs = [.int .i64 u.1, .int .i64 u.2.1, .int .i64 u.2.2.1, .int .i64 u.2.2.2] ∧ True := ⟨(cfg_rd h).1, trivial⟩
theorem own_cfg {w : World} {S : Foot} {u : CfgD} (i0 : In64 u.1) (i1 : In64 u.2.1) (i2 : In64 u.2.2.1) (i3 : In64 u.2.2.2) : cfgR.own w S [.int .i64 u.1, .int .i64 u.2.1, .int .i64 u.2.2.1, .int .i64 u.2.2.2] u := own_op (u := u) ⟨i0, i1, i2, i3⟩
theorem toOp_u : ToC 118 opR opM aggV := by
 intro cs x w h hm;obtain ⟨rfl, a⟩ := op_rd h;refine (toOp_rep x.1 x.2.1 x.2.2.1 x.2.2.2 w).mono ?_;rintro e w' ⟨rfl, b⟩;exact ⟨[_, _, _, _], rfl, own_op a, b⟩
theorem eqOp_u : EqC 138 opR opM aggV := by
 intro cs ds x w h k hm;obtain ⟨rfl, -⟩ := op_rd h;obtain ⟨rfl, -⟩ := op_rd k;exact eqOp_rep x.1 x.2.1 x.2.2.1 x.2.2.2 w
theorem toConfig_rep (k a x y : Int) (w : World) :
    Calls Tryz.prog 29 #[.agg #[.int .i64 k, .int .i64 a, .int .i64 x, .int .i64 y]] w fun e w' => e = .returned (.agg #[.int .i64 k, .int .i64 a, .int .i64 x, .int .i64 y]) ∧ Below w.heap.size w w' := by
 have b : Hid (∀ o o' o'', Below w.heap.size w (((w.alloc o).alloc o').alloc o'')) := fun o o' o'' => below_step (below_step (box_below w o) (box_below _ o')) (box_below _ o'');go_enter Tryz.func29, Tryz.ntmps29;go_wp2;refine bodyPost_ret (v := .agg #[.int .i64 k, .int .i64 a, .int .i64 x, .int .i64 y]) (by simp [results, Tryz.results29, go_sem]) rfl ⟨rfl, ?_⟩;exact b.out _ _ _
theorem toConfig_u : ToC 29 cfgR cfgM aggV := by
 intro cs x w h hm;obtain ⟨rfl, d, c, f, a⟩ := cfg_rd h;refine (toConfig_rep x.1 x.2.1 x.2.2.1 x.2.2.2 w).mono ?_;rintro e w' ⟨rfl, b⟩;exact ⟨[_, _, _, _], rfl, own_cfg d c f a, b⟩
theorem eqConfig_rep (k a x y : Int) (w : World) :
    Calls Tryz.prog 38 #[.agg #[.int .i64 k, .int .i64 a, .int .i64 x, .int .i64 y], .agg #[.int .i64 k, .int .i64 a, .int .i64 x, .int .i64 y]] w fun e w' => e = .returned (.bool true) ∧ Below w.heap.size w w' := by
 have b : Hid (∀ o o', Below w.heap.size w ((w.alloc o).alloc o')) := fun o o' => below_step (box_below w o) (box_below _ o');go_enter Tryz.func38, Tryz.ntmps38;go_wp2;go_ret
 exact ⟨rfl, b.out _ _⟩
theorem eqConfig_u : EqC 38 cfgR cfgM aggV := by
 intro cs ds x w h k hm;obtain ⟨rfl, -⟩ := cfg_rd h;obtain ⟨rfl, -⟩ := cfg_rd k;exact eqConfig_rep x.1 x.2.1 x.2.2.1 x.2.2.2 w
abbrev wayR : Rep (Int × Int × List Int) := prodR intR (prodR intR intsR)
abbrev wayM : Mk (Int × Int × List Int) := prodM intM (prodM intM intsM)
abbrev waysR : Rep (List (Int × Int × List Int)) := slR 88 wayR
abbrev waysM : Mk (List (Int × Int × List Int)) := slM wayM
abbrev setsR : Rep (List (List (Int × Int × List Int))) := slR 143 waysR
abbrev setsM : Mk (List (List (Int × Int × List Int))) := slM waysM
abbrev cacheR : Rep (List (List (Int × Int × List Int)) × List Int) := prodR setsR intsR
abbrev cacheM : Mk (List (List (Int × Int × List Int)) × List Int) := prodM setsM intsM
theorem opens_way : Opens Tryz.prog 103 wayR :=
 opens_struct Tryz.underlying103 (by kernel_rfl) (opensF_cons rfl (by kernel_rfl) opens_i64 (opensF_cons rfl (by kernel_rfl) opens_i64 (opensF_one rfl (by kernel_rfl) opens_ints)))
theorem opens_ways : Opens Tryz.prog 223 waysR := opens_slice Tryz.underlying223 (by kernel_rfl) (by decide) opens_way
theorem opens_sets : Opens Tryz.prog 99 setsR := opens_slice Tryz.underlying99 (by kernel_rfl) (by decide) opens_ways
theorem opens_cache : Opens Tryz.prog 101 cacheR :=
 opens_struct Tryz.underlying101 (by kernel_rfl) (opensF_cons rfl (by kernel_rfl) opens_sets (opensF_one rfl (by kernel_rfl) opens_ints))
theorem way_rd {w : World} {cs : List Value} {u : Int × Int × List Int} (h : wayR.rd w cs u) :
    ∃ a b, cs = [.int .i64 u.1, .int .i64 u.2.1, .slice a u.2.2.length b] ∧ In64 u.1 ∧ In64 u.2.1 ∧ u.2.2.length ≤ b ∧ b ≤ maxLen ∧ SlRd intR w a u.2.2 := by
 obtain ⟨c1, c2, rfl, ⟨rfl, g⟩, c3, c4, rfl, ⟨rfl, i⟩, a, b, rfl, f, c, d⟩ := h;exact ⟨a, b, rfl, g, i, f, c, d⟩
theorem cache_rd {w : World} {cs : List Value} {c : List (List (Int × Int × List Int)) × List Int} (h : cacheR.rd w cs c) :
    ∃ a d b f, cs = [.slice a c.1.length d, .slice b c.2.length f] ∧ c.1.length ≤ d ∧ d ≤ maxLen ∧ c.2.length ≤ f ∧ f ≤ maxLen ∧ SlRd waysR w a c.1 ∧ SlRd intR w b c.2 := by
 obtain ⟨c1, c2, rfl, ⟨a, d, rfl, l, i, k⟩, b, f, rfl, g, m, j⟩ := h;exact ⟨a, d, b, f, rfl, l, i, g, m, k, j⟩
theorem way_own {w : World} {S : Foot} {cs : List Value} {u : Int × Int × List Int} (h : wayR.own w S cs u) :
    ∃ v, cs = [.int .i64 u.1, .int .i64 u.2.1, v] ∧ In64 u.1 ∧ In64 u.2.1 ∧ intsR.own w S [v] u.2.2 := by
 obtain ⟨c1, c2, S1, S2, rfl, ⟨rfl, b⟩, ⟨c3, j, S3, S4, rfl, ⟨rfl, i⟩, a, a3, c, d2⟩, a1, f, d⟩ := h;have g := intsR.rd_len (intsR.own_rd a);obtain ⟨v, rfl⟩ : ∃ v, j = [v] := List.length_eq_one_iff.1 g;exact ⟨v, rfl, b, i, intsR.own_mono a (c.trans f)⟩
theorem own_way {w : World} {S : Foot} {l s : Int} {d : List Int} {v : Value} (i1 : In64 l) (i2 : In64 s) (h : intsR.own w S [v] d) : wayR.own w S [.int .i64 l, .int .i64 s, v] (l, s, d) :=
 ⟨[_], [_, _], fun _ => False, S, rfl, ⟨rfl, i1⟩, ⟨[_], [_], fun _ => False, S, rfl, ⟨rfl, i2⟩, h, fun _ h => h.elim, Sub.refl _, fun _ h _ => h⟩, fun _ h => h.elim, Sub.refl _, fun _ h _ => h⟩
theorem szWay_rep (l s : Int) (d : List Int) (a : Option Addr) (cap : Nat) (left : Int) (w : World) (h0 : 0 ≤ left) (h1 : left ≤ 1048576) (hm : d.length ≤ maxLen) :
    Calls Tryz.prog 110 #[.agg #[.int .i64 l, .int .i64 s, .slice a d.length cap], .int .i64 left] w fun e c => e = .returned (.int .i64 (szI (wayM.bk (l, s, d)) left)) ∧ Below w.heap.size w c := by
 have g : wayM.bk (l, s, d) = intsM.bk d := by show 0 + (0 + intsM.bk d) = _; omega
 rw [g];by_cases f : (intsM.bk d : Int) ≤ left
 ·have b : Hid (szI (intsM.bk d) left = _) := szI_yes f;have i : ¬ (left - (intsM.bk d : Int) < 0) := by omega
  go_enter Tryz.func110, Tryz.ntmps110;go_wp2_with (go_at_call 106; refine (szInt64S_rep _ d _ _ _ h0 h1 hm).mono ?_; rintro e c ⟨rfl, rfl⟩; rw [b.out])
  go_ret
  exact ⟨ret_int b.out.symm, box_below w _⟩
 ·have b : Hid (szI (intsM.bk d) left = _) := szI_no f;go_enter Tryz.func110, Tryz.ntmps110;go_wp2_with (go_at_call 106; refine (szInt64S_rep _ d _ _ _ h0 h1 hm).mono ?_; rintro e c ⟨rfl, rfl⟩; rw [b.out])
  go_ret
  exact ⟨ret_int b.out.symm, box_below w _⟩
end Go.Proofs.YtcocbafhcpdheaaGreatDoor
