import Derived.Test.YtdamokokcdcedaaGreatDoorE00Box
import Derived.LaidEql
import Derived.Stop.Asserts
import Derived.RowKitTokens
import Derived.LaidHandle
import Derived.Stop.Joined
import Derived.Test.YtdamokokcdcedaaGreatDoorE06
import Derived.RangeFuncNested
import Derived.RangeFuncBound
import Derived.RangeFuncLeaves
import Derived.Shelf.Abstract
namespace Go.Proofs.YtdamokokcdcedaaGreatDoor
open Go.RowKit Go.Extern.Stop Go.Stop Go.Extern
set_option linter.unusedVariables false
abbrev refV (c : Int) : Value := .iface 259 (.int .i64 c)
abbrev fltV (n c : Int) : Value := .iface 284 (.agg #[.int .i64 n, .iface 259 (.int .i64 c)])
theorem er_typeOf (v : Value) (w : World) : (Extern.ReflectliteType.typeOf #[.iface 259 v]).run Tryz.prog w = .ok (.iface 295 (.agg #[.pointer (some ⟨2, 259, none⟩)])) w := by kernel_rfl
theorem er_typeOfF (v : Value) (w : World) : (Extern.ReflectliteType.typeOf #[.iface 284 v]).run Tryz.prog w = .ok (.iface 295 (.agg #[.pointer (some ⟨2, 284, none⟩)])) w := by kernel_rfl
def compF : Array Value → Sem Value := Extern.ReflectliteType.method fun t => do Extern.Rtype.noPackHeld "Comparable" t; pure (.bool (← typeInfo t).comparable)
theorem er_comp (w : World) : (compF #[.agg #[.pointer (some ⟨2, 259, none⟩)]]).run Tryz.prog w = .ok (.bool true) w := by kernel_rfl
theorem er_mComp (v : Value) (w : World) : (Go.method 444 295 v "Comparable").run Tryz.prog w = .ok (321, v) w := by kernel_rfl
theorem er_isComp : (Tryz.prog.info? 259).map (·.comparable) = some true := by kernel_rfl
theorem er_noIsR (v : Value) (xT : TypeId) (w : World) : (Instr.typeAssert (.iface 259 v) xT 310 true).run Tryz.prog w = .ok (.tuple #[.nilIface, .bool false]) w := run_typeAssert_lacksB Tryz.underlying310 (by kernel_rfl) (by kernel_rfl) v xT w
theorem er_noIsF (v : Value) (xT : TypeId) (w : World) : (Instr.typeAssert (.iface 284 v) xT 310 true).run Tryz.prog w = .ok (.tuple #[.nilIface, .bool false]) w := run_typeAssert_lacksB Tryz.underlying310 (by kernel_rfl) (by kernel_rfl) v xT w
theorem er_noUnR (v : Value) (xT : TypeId) (w : World) : (Instr.typeAssert (.iface 259 v) xT 303 true).run Tryz.prog w = .ok (.tuple #[.nilIface, .bool false]) w := run_typeAssert_lacksB Tryz.underlying303 (by kernel_rfl) (by kernel_rfl) v xT w
theorem er_noUnsR (v : Value) (xT : TypeId) (w : World) : (Instr.typeAssert (.iface 259 v) xT 305 true).run Tryz.prog w = .ok (.tuple #[.nilIface, .bool false]) w := run_typeAssert_lacksB Tryz.underlying305 (by kernel_rfl) (by kernel_rfl) v xT w
theorem er_hasUnF (v : Value) (xT : TypeId) (w : World) : (Instr.typeAssert (.iface 284 v) xT 303 true).run Tryz.prog w = .ok (.tuple #[.iface 284 v, .bool true]) w := run_typeAssert_hasB Tryz.underlying303 (by kernel_rfl) v xT w
theorem er_mUn (v : Value) (w : World) : (Go.method 444 284 v "Unwrap").run Tryz.prog w = .ok (318, v) w := by kernel_rfl
theorem er_eqR (a b : Int) (w : World) : (binOp .eql 242 (.iface 259 (nI a)) (.iface 259 (nI b))).run Tryz.prog w = .ok (.bool (a == b)) w := by
 obtain ⟨i, f, c⟩ := Option.map_eq_some_iff.1 er_isComp;have h : ∀ d : Nat, (Op.equalIn (d + 2) 242 (.iface 259 (nI a)) (.iface 259 (nI b))).run Tryz.prog w = .ok (a == b) w := fun d => by
  simp [Op.equalIn, run_underlying Tryz.underlying242, run_underlying Tryz.underlying259, typeInfo, f, c]
 simp only [binOp];simp [Op.equal, Op.maxDepth, h 9998]
theorem unwrap_any (n c : Int) (w : World) : Calls Tryz.prog 318 #[.agg #[nI n, .iface 259 (nI c)]] w fun e w' => e = .returned (.iface 259 (nI c)) ∧ Bl w w' := by
 have a := box_below w (.cells #[nI n, .iface 259 (nI c)] 284);go_enter Tryz.func318, Tryz.ntmps318;go_wp2;go_ret
 exact ⟨rfl, a⟩
set_option maxHeartbeats 4000000 in
theorem isFault_any (n c d : Int) (w : World) : Calls Tryz.prog 270 #[.iface 284 (.agg #[nI n, .iface 259 (nI c)]), .iface 259 (nI d)] w fun e w' => e = .returned (.bool (c == d)) ∧ Bl w w' := by
 have h8 := @run_callFunc_extern Tryz.prog 279 _ Extern.ReflectliteType.typeOf Tryz.func279 (by kernel_rfl) (by kernel_rfl) (by kernel_rfl) (by kernel_rfl);have j := @run_callFunc_extern Tryz.prog 321 _ compF Tryz.func321 (by kernel_rfl) (by kernel_rfl) (by kernel_rfl) (by kernel_rfl);have tT := er_typeOf;have cT := er_comp;have mR := er_mComp;have n1 := er_noIsR;have n2 := er_noIsF;have n3 := er_noUnR;have n4 := er_noUnsR;have n5 := er_hasUnF;have mU := er_mUn;have g : ∀ W, (binOp .eql 242 (.iface 284 (.agg #[nI n, .iface 259 (nI c)])) (.iface 259 (nI d))).run Tryz.prog W = .ok (.bool false) W := fun W => run_eql_iface_types (P := Tryz.prog) 284 259 _ _ Tryz.underlying242 (by decide) W;have a : ∀ W, _ := fun W => er_eqR c d W;generalize k : (c == d) = q at a ⊢;go_enter Tryz.func270, Tryz.ntmps270;go_wp2_with go_in
 refine wp_loop_rounds 2 ?_;rw [rounds_succ];go_wp2_with (go_at_call 318; refine (unwrap_any _ _ _).mono ?_; rintro e i ⟨rfl, b⟩)
 rw [rounds_succ];have f : Hid (Bl w i) := b;clear b k;cases q
 ·go_wp2;go_ret
  exact ⟨rfl, f.out⟩
 ·go_wp2;go_ret
  exact ⟨rfl, f.out⟩
def Hold (w : World) : Prop := w.cell? ⟨1, 0, none⟩ = some (.iface 295 (.agg #[.pointer (some ⟨2, 242, none⟩)]))
theorem Hold.lt {w : World} (h : Hold w) : 1 < w.heap.size := cell_lt h
theorem Hold.goes {w W : World} (h : Hold w) (hb : Bl w W) : Hold W := cell_keep hb h h.lt
abbrev hanV (t : Nat) : Value := .iface 295 (.agg #[.pointer (some ⟨2, t, none⟩)])
abbrev valP (a : Addr) : Value := .agg #[.pointer (some ⟨2, 261, none⟩), .pointer (some a), .int .u64 150]
abbrev valO (a : Addr) : Obj := .cells #[.pointer (some ⟨2, 261, none⟩), .pointer (some a), .int .u64 150] 274
def typeF : Array Value → Sem Value := ReflectliteValue.methodAny (ReflectliteValue.valueError "reflectlite.Value.Type" 0) (fun t _ _ _ => ReflectliteType.toType t)
def kindF : Array Value → Sem Value := ReflectliteType.abiMethod fun t => do pure (.int .u8 (← Rtype.kind t))
def isNilF : Array Value → Sem Value := ReflectliteValue.method (ReflectliteValue.valueError "reflectlite.Value.IsNil" 0) ReflectliteValue.isNil
def elemTF : Array Value → Sem Value := ReflectliteType.method ReflectliteType.elem
def implF : Array Value → Sem Value := ReflectliteType.relation "Implements" ReflectliteType.implements_
def asgnF : Array Value → Sem Value := ReflectliteType.relation "AssignableTo" ReflectliteType.assignableTo
def elemVF : Array Value → Sem Value := ReflectliteValue.method (ReflectliteValue.valueError "reflectlite.Value.Elem" 0) ReflectliteValue.elem
def unpF : Array Value → Sem Value := fun args => ReflectliteValue.unpack (args.getD 0 (.tuple #[]))
def setF : Array Value → Sem Value := ReflectliteValue.set
theorem as_unpP (t : Addr) (w : World) : (unpF #[.iface 261 (.pointer (some t))]).run Tryz.prog w = .ok (valP ⟨w.heap.size, 0, none⟩) (w.alloc (.cells #[.pointer (some t)] 261)) := by kernel_rfl
theorem as_type (a : Addr) (w : World) : (typeF #[valP a]).run Tryz.prog w = .ok (hanV 261) w := by kernel_rfl
theorem as_mKind (h : Value) (w : World) : (Go.method 444 295 (.agg #[h]) "Kind").run Tryz.prog w = .ok (306, h) w := by kernel_rfl
theorem as_kindP (w : World) : (kindF #[.pointer (some ⟨2, 261, none⟩)]).run Tryz.prog w = .ok (.int .u8 22) w := by kernel_rfl
theorem as_kindE (w : World) : (kindF #[.pointer (some ⟨2, 259, none⟩)]).run Tryz.prog w = .ok (.int .u8 6) w := by kernel_rfl
theorem mt1 {m : Array Value → Sort _} (v : Value) (h1 : ∀ v, m #[v]) (h2 : ∀ a, m a) : ReflectliteValue.method.match_2 m #[v] h1 h2 = h1 v := rfl
theorem mt2 {m : Array Value → Sort _} (v x : Value) (h1 : ∀ v x, m #[v, x]) (h2 : ∀ a, m a) : ReflectliteValue.set.match_3 m #[v, x] h1 h2 = h1 v x := rfl
theorem as_partsP (a : Addr) (w : World) : (ReflectliteValue.parts (valP a)).run Tryz.prog w = .ok (some (261, a, 150)) w := by kernel_rfl
theorem as_isNil (a p : Addr) (W : World) (ha : W.cell? a = some (.pointer (some p))) : (isNilF #[valP a]).run Tryz.prog W = .ok (.bool false) W := by
 unfold isNilF ReflectliteValue.method;rw [mt1];simp only [Sem.run_bind, as_partsP, Result.andThen];simp [ReflectliteValue.isNil, loadVar, isAgg, underlying, Tryz.underlying261, ha, Result.andThen]
theorem as_mElem (h : Value) (w : World) : (Go.method 444 295 (.agg #[h]) "Elem").run Tryz.prog w = .ok (322, .agg #[h]) w := by kernel_rfl
theorem as_mImpl (h : Value) (w : World) : (Go.method 444 295 (.agg #[h]) "Implements").run Tryz.prog w = .ok (323, .agg #[h]) w := by kernel_rfl
theorem as_mAsgn (h : Value) (w : World) : (Go.method 444 295 (.agg #[h]) "AssignableTo").run Tryz.prog w = .ok (320, .agg #[h]) w := by kernel_rfl
theorem as_elemT (w : World) : (elemTF #[.agg #[.pointer (some ⟨2, 261, none⟩)]]).run Tryz.prog w = .ok (hanV 259) w := by kernel_rfl
theorem as_impl (w : World) : (implF #[.agg #[.pointer (some ⟨2, 259, none⟩)], hanV 242]).run Tryz.prog w = .ok (.bool true) w := by kernel_rfl
theorem as_asgnR (w : World) : (asgnF #[.agg #[.pointer (some ⟨2, 259, none⟩)], hanV 259]).run Tryz.prog w = .ok (.bool true) w := by kernel_rfl
theorem as_asgnF (w : World) : (asgnF #[.agg #[.pointer (some ⟨2, 284, none⟩)], hanV 259]).run Tryz.prog w = .ok (.bool false) w := by kernel_rfl
theorem as_unpE (c : Int) (w : World) : (unpF #[.iface 259 (nI c)]).run Tryz.prog w = .ok (.agg #[.pointer (some ⟨2, 259, none⟩), .pointer (some ⟨w.heap.size, 0, none⟩), .int .u64 134]) (w.alloc (.cells #[nI c] 259)) := by kernel_rfl
theorem as_elemOf (w : World) : (Rtype.elem? 261).run Tryz.prog w = .ok (some 259) w := by kernel_rfl
theorem as_mkE (p : Addr) (w : World) : (ReflectliteValue.mk 259 p ReflectliteValue.flagAddr).run Tryz.prog w = .ok (.agg #[.pointer (some ⟨2, 259, none⟩), .pointer (some p), .int .u64 390]) w := by kernel_rfl
theorem as_elemV (a p : Addr) (W : World) (ha : W.cell? a = some (.pointer (some p))) : (elemVF #[valP a]).run Tryz.prog W = .ok (.agg #[.pointer (some ⟨2, 259, none⟩), .pointer (some p), .int .u64 390]) W := by
 unfold elemVF ReflectliteValue.method;rw [mt1];simp only [Sem.run_bind, as_partsP, Result.andThen];simp [ReflectliteValue.elem, loadVar, isAgg, underlying, Tryz.underlying261, ha, Result.andThen, as_elemOf, as_mkE]
theorem as_partsEa (a : Addr) (w : World) : (ReflectliteValue.parts (.agg #[.pointer (some ⟨2, 259, none⟩), .pointer (some a), .int .u64 390])).run Tryz.prog w = .ok (some (259, a, 390)) w := by kernel_rfl
theorem as_partsE (a : Addr) (w : World) : (ReflectliteValue.parts (.agg #[.pointer (some ⟨2, 259, none⟩), .pointer (some a), .int .u64 134])).run Tryz.prog w = .ok (some (259, a, 134)) w := by kernel_rfl
theorem as_direct (w : World) : (Rtype.directlyAssignable 259 259).run Tryz.prog w = .ok true w := by kernel_rfl
theorem as_set (ta b : Addr) (c : Int) (old : Value) (W : World) (hb : W.cell? b = some (nI c)) (ht : W.cell? ta = some old) (hf : W.frozen? ta = false) :
    (setF #[.agg #[.pointer (some ⟨2, 259, none⟩), .pointer (some ta), .int .u64 390], .agg #[.pointer (some ⟨2, 259, none⟩), .pointer (some b), .int .u64 134]]).run Tryz.prog W = .ok (.tuple #[]) (W.setCell ta (nI c)) := by
 unfold setF ReflectliteValue.set;rw [mt2];simp only [Sem.run_bind, as_partsEa, as_partsE, Result.andThen];simp [ReflectliteValue.flagAddr, loadVar, isAgg, underlying, Tryz.underlying259, hb, Result.andThen, as_direct, storeVar, Value.cells, storeCells, Addr.add]
 rw [run_store Tryz.prog W ta _ _ (by rfl)];simp [ht, hf]
theorem as_noAsF (v : Value) (xT : TypeId) (w : World) : (Instr.typeAssert (.iface 284 v) xT 300 true).run Tryz.prog w = .ok (.tuple #[.nilIface, .bool false]) w := run_typeAssert_lacksB Tryz.underlying300 (by kernel_rfl) (by kernel_rfl) v xT w
open Go.ChangeShapes Go.WideShapes Go.RowKit
abbrev holdL : List (String × DataW Unit) := [("errors.errorType", Rows.laid_errors_errorType)]
theorem gEt : Tryz.prog.globalNamed "errors.errorType" = some 1 := by kernel_rfl
theorem gRt : (Tryz.prog.cutTypes.find? (·.1 == "internal/reflectlite.rtype")).map (·.2) = some 295 := by kernel_rfl
theorem gRow : ((List.range 344).filter fun t => Tryz.prog.rowNamed t [101, 114, 114, 111, 114]) = [242] := by kernel_rfl
theorem gSize : Tryz.prog.types.size = 344 := by kernel_rfl
theorem hold_laid {W : World} (h : laidMetH Tryz.prog holdL W) : Hold W := by
 have f : laidMet Tryz.prog [] W ∧ handlesMet Tryz.prog holdL W := h;obtain ⟨a, u, g, i, k, m, d, c⟩ := f.2 _ (List.mem_singleton.2 rfl);have j : a = [101, 114, 114, 111, 114] := (Option.some.inj i).symm;subst j;obtain rfl := Option.some.inj (gRt.symm.trans k);have b : g ∈ (List.range 344).filter fun t => Tryz.prog.rowNamed t [101, 114, 114, 111, 114] := List.mem_filter.2 ⟨List.mem_range.2 (by rw [← gSize]; exact m), d⟩;rw [gRow] at b;obtain rfl := List.mem_singleton.1 b;have l : typeHandle Tryz.prog 242 = .pointer (some ⟨2, 242, none⟩) := by kernel_rfl
 rw [l] at c;unfold Hold;simpa using World.var?_cell gEt c 0
noncomputable def laidWorld (os : Os) : World :=
 { World.holding Tryz.prog os ⟨#[], #[], []⟩ with heap := (World.holding Tryz.prog os ⟨#[], #[], []⟩).heap.modify 1 fun
     | .cells _ t frozen => .cells #[.iface 295 (.agg #[.pointer (some ⟨2, 242, none⟩)])] t frozen
     | o => o }
structure HoldB (w : World) : Prop where
 han : Hold w
 tab : HoldT w
theorem HoldB.goes {w w' : World} (h : HoldB w) (hb : Bl w w') : HoldB w' := ⟨h.han.goes hb, h.tab.goes hb⟩
abbrev holdLB : List (String × DataW Unit) := [("errors.errorType", Rows.laid_errors_errorType), (holdName, Rows.laid_loop_example_g00342_impl_holdings)]
theorem laid_parts {W : World} (h : laidMetH Tryz.prog holdLB W) : laidMet Tryz.prog holdLT W ∧ laidMetH Tryz.prog holdL W := by
 have a : laidMet Tryz.prog holdLT W ∧ handlesMet Tryz.prog holdL W := h;exact ⟨a.1, ⟨laidMet_nil _ _, a.2⟩⟩
noncomputable def laidWorldB (os : Os) : World :=
 { laidWorld os with heap := (laidWorld os).heap.modify 0 fun
     | .cells _ t frozen => .cells holdC t frozen
     | o => o }
theorem laid_rowB (os : Os) (args : Array Value) : ((laidWorldB os).forCall (fun _ _ => 0) ⟨#[], args, []⟩).memory.heap[0]? = some (.cells holdC 154 (0, 0)) := by kernel_rfl
set_option maxRecDepth 100000 in
theorem laid_metD (os : Os) (args : Array Value) : laidMet Tryz.prog holdLT ((laidWorldB os).forCall (fun _ _ => 0) ⟨#[], args, []⟩).memory := by
 refine ⟨_, ⟨0, 154, holdC, 8, [], [], by kernel_rfl, by kernel_rfl, by kernel_rfl, by kernel_rfl, rfl, rfl⟩, by decide, fun b off h => ?_⟩;have a : MemPlace.cell b off ∈ [MemPlace.cell 0 0, .cell 0 1, .cell 0 2, .cell 0 3, .cell 0 4, .cell 0 5, .cell 0 6, .cell 0 7, .cell 0 8, .cell 0 9, .cell 0 10, .cell 0 11] := h;have c : b = 0 := by
  simp at a
  omega
 subst c;refine ⟨⟨_, _, laid_rowB os args⟩, fun u v hc => ?_⟩;simp only [World.cell?, laid_rowB os args] at hc;simp at a
 rcases a with rfl | rfl | rfl | rfl | rfl | rfl | rfl | rfl | rfl | rfl | rfl | rfl <;> simp [holdC] at hc
theorem laid_metB (os : Os) (args : Array Value) : laidMetH Tryz.prog holdLB ((laidWorldB os).forCall (fun _ _ => 0) ⟨#[], args, []⟩).memory :=
 laidMetH_of_parts (laid_metD os args) (by kernel_rfl)
open Go.ChangeShapes Go.WideShapes Go.ChangeAt Go.RowKit
abbrev wayR : Rep (Int × Int × List Int) := prodR intR (prodR intR intsR)
abbrev wayM : Mk (Int × Int × List Int) := prodM intM (prodM intM intsM)
abbrev waysR : Rep (List (Int × Int × List Int)) := slR 74 wayR
abbrev waysM : Mk (List (Int × Int × List Int)) := slM wayM
abbrev setsR : Rep (List (List (Int × Int × List Int))) := slR 127 waysR
abbrev setsM : Mk (List (List (Int × Int × List Int))) := slM waysM
abbrev cacheR : Rep (List (List (Int × Int × List Int)) × List Int) := prodR setsR intsR
abbrev cacheM : Mk (List (List (Int × Int × List Int)) × List Int) := prodM setsM intsM
theorem opens_way : Opens Tryz.prog 109 wayR :=
 opens_struct Tryz.underlying109 (by kernel_rfl) (opensF_cons rfl (by kernel_rfl) opens_i64 (opensF_cons rfl (by kernel_rfl) opens_i64 (opensF_one rfl (by kernel_rfl) opens_ints)))
theorem opens_ways : Opens Tryz.prog 252 waysR := opens_slice Tryz.underlying252 (by kernel_rfl) (by decide) opens_way
theorem opens_sets : Opens Tryz.prog 105 setsR := opens_slice Tryz.underlying105 (by kernel_rfl) (by decide) opens_ways
theorem opens_cache : Opens Tryz.prog 107 cacheR :=
 opens_struct Tryz.underlying107 (by kernel_rfl) (opensF_cons rfl (by kernel_rfl) opens_sets (opensF_one rfl (by kernel_rfl) opens_ints))
theorem way_rd {w : World} {cs : List Value} {u : Int × Int × List Int} (h : wayR.rd w cs u) :
    ∃ a b, cs = [nI u.1, nI u.2.1, sL a u.2.2.length b] ∧ In64 u.1 ∧ In64 u.2.1 ∧ u.2.2.length ≤ b ∧ b ≤ maxLen ∧ SlRd intR w a u.2.2 := by
 obtain ⟨c1, c2, rfl, ⟨rfl, f⟩, c3, c4, rfl, ⟨rfl, c⟩, a, b, rfl, i, g, d⟩ := h;exact ⟨a, b, rfl, f, c, i, g, d⟩
theorem cache_rd {w : World} {cs : List Value} {c : List (List (Int × Int × List Int)) × List Int} (h : cacheR.rd w cs c) :
    ∃ a d b f, cs = [sL a c.1.length d, sL b c.2.length f] ∧ c.1.length ≤ d ∧ d ≤ maxLen ∧ c.2.length ≤ f ∧ f ≤ maxLen ∧ SlRd waysR w a c.1 ∧ SlRd intR w b c.2 := by
 obtain ⟨c1, c2, rfl, ⟨a, d, rfl, k, l, j⟩, b, f, rfl, i, g, m⟩ := h;exact ⟨a, d, b, f, rfl, k, l, i, g, j, m⟩
theorem own_way {w : World} {S : Foot} {l s : Int} {d : List Int} {v : Value} (i1 : In64 l) (i2 : In64 s) (h : intsR.own w S [v] d) : wayR.own w S [nI l, nI s, v] (l, s, d) :=
 ⟨[_], [_, _], fun _ => False, S, rfl, ⟨rfl, i1⟩, ⟨[_], [_], fun _ => False, S, rfl, ⟨rfl, i2⟩, h, fun _ h => h.elim, Sub.refl _, fun _ h _ => h⟩, fun _ h => h.elim, Sub.refl _, fun _ h _ => h⟩
set_option maxHeartbeats 400000 in
theorem szWay_rep (l s : Int) (d : List Int) (a : Option Addr) (cap : Nat) (left : Int) (w : World) (h0 : 0 ≤ left) (h1 : left ≤ 1048576) (hm : d.length ≤ maxLen) :
    Calls Tryz.prog 124 #[.agg #[nI l, nI s, sL a d.length cap], nI left] w fun e c => e = .returned (nI (szI (wayM.bk (l, s, d)) left)) ∧ Bl w c := by
 have i : wayM.bk (l, s, d) = intsM.bk d := by show 0 + (0 + intsM.bk d) = _; omega
 rw [i];by_cases f : (intsM.bk d : Int) ≤ left
 ·have b : Hid (szI (intsM.bk d) left = _) := szI_yes f;have g : ¬ (left - (intsM.bk d : Int) < 0) := by omega
  go_enter Tryz.func124, Tryz.ntmps124;go_wp2_with (go_at_call 120; refine (szInt64S_rep _ d _ _ _ h0 h1 hm).mono ?_; rintro e c ⟨rfl, rfl⟩; rw [b.out])
  go_ret
  exact ⟨ret_int b.out.symm, box_below w _⟩
 ·have b : Hid (szI (intsM.bk d) left = _) := szI_no f;go_enter Tryz.func124, Tryz.ntmps124;go_wp2_with (go_at_call 120; refine (szInt64S_rep _ d _ _ _ h0 h1 hm).mono ?_; rintro e c ⟨rfl, rfl⟩; rw [b.out])
  go_ret
  exact ⟨ret_int b.out.symm, box_below w _⟩
open Go.ChangeShapes Go.WideShapes Go.ChangeAt Go.RowKit Go.Shelf
section
variable {P : Program}
def Kept (B : Nat) (W W' : World) : Prop := W.heap.size ≤ W'.heap.size ∧ ∀ k, B ≤ k → k < W.heap.size → W'.heap[k]? = W.heap[k]?
theorem Kept.refl (B : Nat) (W : World) : Kept B W W := ⟨Nat.le_refl _, fun _ _ _ => rfl⟩
theorem Kept.trans {B : Nat} {U V W : World} (h : Kept B U V) (k : Kept B V W) : Kept B U W := ⟨Nat.le_trans h.1 k.1, fun i hi hl => (k.2 i hi (Nat.lt_of_lt_of_le hl h.1)).trans (h.2 i hi hl)⟩
theorem Kept.mono {B B' : Nat} {W W' : World} (h : Kept B W W') (hb : B ≤ B') : Kept B' W W' := ⟨h.1, fun i hi hl => h.2 i (Nat.le_trans hb hi) hl⟩
theorem Kept.below {B : Nat} {W W' : World} (h : Bl W W') : Kept B W W' := ⟨h.size, fun i _ hl => h.block i hl⟩
theorem Kept.chg {B : Nat} {S : Foot} {W W' : World} (h : Chg S W W') (hS : ∀ k, S k → k < B) : Kept B W W' := ⟨h.size, fun i hi hl => h.block i hl fun x => by have := hS i x; omega⟩
theorem Kept.alloc (B : Nat) (W : World) (o : Obj) : Kept B W (W.alloc o) := ⟨by simp, fun i _ hl => Below.heap_alloc W o i hl⟩
theorem Kept.put {B l : Nat} (W : World) (o : Obj) (h : l < B) : Kept B W (W.putObj l o) := ⟨by simp, fun i hi _ => World.putObj_heap_other (by omega)⟩
theorem own_later {β : Type} {B B' : Nat} {I : β → World → Prop} (h : OwnFrom B I) (hb : B ≤ B') : OwnFrom B' I := fun s W W' row hs hg hr => h s W W' row hs hg (fun r e => ⟨Nat.le_trans hb (hr r e).1, (hr r e).2⟩)
theorem own_heap {β : Type} (B k : Nat) (cs : Array Value) (t : TypeId) : OwnFrom B (fun (_ : β) W => W.heap[k]? = some (.cells cs t (0, 0))) := fun s X Y row hs hg hr => by
 refine (hg.block k (ltH hs) fun e => ?_).trans hs;obtain ⟨o, a, b⟩ := (hr k e.symm).2;rw [hs] at a;cases a;cases b
def Iter (P : Program) (g : Nat) (lb : Array Value) (args : Nat → Array Value) (N : Nat) (R : World → Prop) : Prop :=
 ∀ (l : Nat) (J Jx : Nat → World → Prop) (W : World), OwnFrom W.heap.size J → OwnFrom W.heap.size Jx → (∀ k W1, J k W1 → R W1) →
  (∀ k W1, k < N → J k W1 → YieldAt Fence.wide 0 P l (args k) W1 fun e W' => Kept W.heap.size W1 W' ∧ ((e = .returned (.bool true) ∧ J (k + 1) W') ∨ (e = .returned (.bool false) ∧ Jx k W'))) →
  J 0 W → CallsIn Fence.wide 0 P g (#[.func (.yield l) #[] #[]] ++ lb) W fun e W' => (∃ v, e = .returned v) ∧ (J N W' ∨ ∃ k, k < N ∧ Jx k W')
def roundsOn (B : Nat) (I : Nat → World → Prop) (Ix : Code → Nat → World → Prop) (k : Nat) (W : World) : Exit → Act → World → Prop
 | .normal, _, W' => Kept B W W' ∧ I (k + 1) W'
 | .ret, _, W' => Kept B W W' ∧ Ix .ret k W'
 | .exit id, _, W' => Kept B W W' ∧ Ix (.exit id) k W'
 | .goto t, _, W' => Kept B W W' ∧ Ix (.goto t) k W'
 | .panic _, _, _ => False
 | .outgrown, _, _ => False
theorem range_iter {g : Operand} {ps : Array Tmp} {assign body : Code} {Q : Exit → Act → World → Prop} {a : Act} {w : World} {gf : Nat} {lb : Array Value}
    (hg : a.eval g = .func (.func gf) #[] lb) (eg : Enters P gf)
    {args : Nat → Array Value} {N : Nat} {R : World → Prop} (it : Iter P gf lb args N R) (hps : ∀ k, (args k).size = ps.size)
    (I : Nat → World → Prop) (Ix : Code → Nat → World → Prop) (hI : OwnFrom w.heap.size I) (hIx : ∀ c, OwnFrom w.heap.size (Ix c)) (hR : ∀ k W, I k W → R W) (h0 : I 0 w) (A : Nat → Act → World → Prop) (hA : ∀ k F, OwnFrom w.heap.size (fun (_ : Unit) W => A k F W))
    (hassign : ∀ (k : Nat) (W : World) (K : Act → World → Prop), k < N → I k W → w.heap.size + 1 < W.heap.size → (∀ F W', Kept w.heap.size W W' → A k F W' → K F W') → assign.wpIn (Fence.wide.inRound (w.heap.size + 1)) 0 P (Exit.then K (fun _ _ _ => False)) { tmps := (ps.zip (args k)).foldl (fun t (p, v) => t.setIfInBounds p v) a.tmps, defers := [] } W)
    (hbody : ∀ (k : Nat) (F : Act) (W : World), k < N → A k F W → w.heap.size + 1 < W.heap.size → W.heap[w.heap.size]? = some (.deferred (some [])) → (∃ r, W.heap[w.heap.size + 1]? = some (.loop r)) → body.wpIn (Fence.wide.inRound (w.heap.size + 1)) 0 P (roundsOn w.heap.size I Ix k W) F W)
    (hdone : ∀ W, I N W → W.heap[w.heap.size]? = some (.deferred (some [])) → Q .normal { a with defers := { target := .collected w.heap.size, args := #[] } :: a.defers } W)
    (hstop : ∀ c k W, k < N → Ix c k W → W.heap[w.heap.size]? = some (.deferred (some [])) → c.wpIn Fence.wide 0 P Q { a with defers := { target := .collected w.heap.size, args := #[] } :: a.defers } W) :
    (Code.rangeFunc g ps assign body).wpIn Fence.wide 0 P Q a w := by
 refine wpIn_rangeFunc fun fn hfn => ?_;let lp : LoopState → Option Code → Obj := fun Z T => .loop { state := Z, pending := T, fn, tmps := a.tmps, params := ps, assign, body, defers := w.heap.size }
 have J : ∀ {A B : World} {f : Option Nat} {Z : LoopState} {T : Option Code}, A.grownBy B f → (∀ r, f = some r → w.heap.size + 2 ≤ r ∧ ∃ o : Obj, A.heap[r]? = some o ∧ o.isCells = false) → A.heap[w.heap.size + 1]? = some (lp Z T) → A.heap[w.heap.size]? = some (.deferred (some [])) →
     B.heap[w.heap.size + 1]? = some (lp Z T) ∧ B.heap[w.heap.size]? = some (.deferred (some [])) := by
  intro A B f Z T i d M h2;have l1 := (ltH M);refine ⟨(i.block _ l1 fun e => ?_).trans M, (i.block _ (by omega) fun e => ?_).trans h2⟩
  ·have := (d _ e.symm).1;omega
  ·have := (d _ e.symm).1;omega
 have H : ∀ {A B : World} {f : Option Nat}, (∀ r, f = some r → w.heap.size + 2 ≤ r ∧ ∃ o : Obj, A.heap[r]? = some o ∧ o.isCells = false) → ∀ r, f = some r → w.heap.size ≤ r ∧ ∃ o : Obj, A.heap[r]? = some o ∧ o.isCells = false :=
  fun d r e => ⟨by have := (d r e).1; omega, (d r e).2⟩
 have sz : ((w.alloc (.deferred (some []))).alloc (lp .ready none)).heap.size = w.heap.size + 2 := by simp
 refine ⟨w.heap.size + 1, [{ target := .collected w.heap.size, args := #[] }], (w.alloc (.deferred (some []))).alloc (lp .ready none), { target := .fn (.func gf) lb, args := #[.func (.yield (w.heap.size + 1)) #[] #[]] }, (w.alloc (.deferred (some []))).alloc (lp .ready none), gf,
  #[.func (.yield (w.heap.size + 1)) #[] #[]] ++ lb, (w.alloc (.deferred (some []))).alloc (lp .ready none), run_enterLoop_outer _ _ _ _ _, ?_, fun _ _ => trivial, ?_, (fun h => by cases h), ?_⟩
 ·simp only [resolve, hg];simp [go_sem]
 ·have eA : ∀ args w, (callFunc gf args).run P w = .ok (.enter gf args) w := eg;simp [invoke, go_sem, eA]
 refine (it (w.heap.size + 1) (fun k W => I k W ∧ W.heap[w.heap.size + 1]? = some (lp .ready none) ∧ W.heap[w.heap.size]? = some (.deferred (some [])))
  (fun k W => ∃ c, Ix c k W ∧ W.heap[w.heap.size + 1]? = some (lp .done (some c)) ∧ W.heap[w.heap.size]? = some (.deferred (some []))) _ ?_ ?_ (fun k W h => hR k W h.1) ?_ ⟨?_, ?_, ?_⟩).mono ?_
 ·rintro k A B f ⟨M, h2, h3⟩ i d;rw [sz] at d;exact ⟨hI k A B f M i (H (B := B) d), J i d h2 h3⟩
 ·rintro k A B f ⟨c, M, h2, h3⟩ i d;rw [sz] at d;exact ⟨c, hIx c k A B f M i (H (B := B) d), J i d h2 h3⟩
 ·rintro k W hk ⟨O, C, L⟩;have m := (ltH C);refine ⟨fn, _, assign, body, run_yield C (hps k), roundIn_of_wpIn hfn (hassign k W _ hk O m ?_)⟩;clear O;intro F Wa n dA;replace C := (n.2 _ (by omega) m).trans C;replace L := (n.2 _ (Nat.le_refl _) (by omega)).trans L;clear m;replace n : Kept ((w.alloc (.deferred (some []))).alloc (lp .ready none)).heap.size W Wa := n.mono (by rw [sz]; omega);have X : ∀ V o, Kept ((w.alloc (.deferred (some []))).alloc (lp .ready none)).heap.size V (V.putObj (w.heap.size + 1) o) := fun V o => Kept.put V o (by rw [sz]; omega);revert n
  generalize W = Wb;intro n;obtain ⟨W, rfl⟩ : ∃ W, W = Wa := ⟨_, rfl⟩;have m := (ltH C);refine ⟨_, run_beginRound C rfl, ?_⟩;have Y : (W.putObj (w.heap.size + 1) (lp .busy none)).heap[w.heap.size + 1]? = some (lp .busy none) := World.putObj_heap_same m;have U : (W.putObj (w.heap.size + 1) (lp .busy none)).heap[w.heap.size]? = some (.deferred (some [])) := (World.putObj_heap_other (by omega)).trans L;refine wpIn_mono (hbody k F _ hk ((hA k F).putObj (s := ()) _ dA (by omega) C rfl) (by simpa using m) U ⟨_, Y⟩) ?_;have G : ∀ (b : Option Code) (D : World), Kept w.heap.size (W.putObj (w.heap.size + 1) (lp .busy none)) D →
      Kept ((w.alloc (.deferred (some []))).alloc (lp .ready none)).heap.size Wb (D.putObj (w.heap.size + 1) (lp (if b.isNone then .ready else .done) b)) ∧
      (Instr.endRound (w.heap.size + 1) b).run P D = .ok (.bool b.isNone) (D.putObj (w.heap.size + 1) (lp (if b.isNone then .ready else .done) b)) ∧ D.heap[w.heap.size + 1]? = some (lp .busy none) ∧
      (D.putObj (w.heap.size + 1) (lp (if b.isNone then .ready else .done) b)).heap[w.heap.size + 1]? = some (lp (if b.isNone then .ready else .done) b) ∧
      (D.putObj (w.heap.size + 1) (lp (if b.isNone then .ready else .done) b)).heap[w.heap.size]? = some (.deferred (some [])) := by
   intro b D E;have e2 := (E.2 _ (by omega) (by simpa using m)).trans Y;have e1 := (E.2 _ (Nat.le_refl _) (by simp; omega)).trans U;exact ⟨((n.trans (X _ _)).trans (E.mono (by rw [sz]; omega))).trans (X _ _), run_endRound b e2, e2, World.putObj_heap_same (ltH e2), (World.putObj_heap_other (by omega)).trans e1⟩
  intro e a3 D S;cases e with
  | normal =>
   obtain ⟨E, y⟩ := S;obtain ⟨z, d, j, l, q⟩ := G none D E;exact ⟨_, _, d, z, .inl ⟨rfl, hI.putObj _ y (by omega) j rfl, l, q⟩⟩
  | ret =>
   obtain ⟨E, y⟩ := S;obtain ⟨z, d, j, l, q⟩ := G (some .ret) D E;exact ⟨_, _, d, z, .inr ⟨rfl, .ret, (hIx _).putObj _ y (by omega) j rfl, l, q⟩⟩
  | exit id =>
   obtain ⟨E, y⟩ := S;obtain ⟨z, d, j, l, q⟩ := G (some (.exit id)) D E;exact ⟨_, _, d, z, .inr ⟨rfl, .exit id, (hIx _).putObj _ y (by omega) j rfl, l, q⟩⟩
  | goto t =>
   obtain ⟨E, y⟩ := S;obtain ⟨z, d, j, l, q⟩ := G (some (.goto t)) D E;exact ⟨_, _, d, z, .inr ⟨rfl, .goto t, (hIx _).putObj _ y (by omega) j rfl, l, q⟩⟩
  | panic ch => exact S.elim
  | outgrown => exact S.elim
 ·exact hI.alloc _ (hI.alloc _ h0)
 ·have := World.alloc_heap_new (w.alloc (.deferred (some []))) (lp .ready none);rwa [World.size_alloc] at this
 ·exact (Below.heap_alloc _ _ _ (by simp)).trans (World.alloc_heap_new w _)
 ·rintro e W ⟨⟨v, rfl⟩, ⟨O, C, L⟩ | ⟨k, hk, c, O, C, L⟩⟩
  ·exact ⟨none, _, run_endLoop C (by simp), hdone _ (hI.putObj _ O (by omega) C rfl) ((World.putObj_heap_other (by omega)).trans L)⟩
  ·exact ⟨some c, _, run_endLoop C (by simp), hstop c k _ hk ((hIx c).putObj _ O (by omega) C rfl) ((World.putObj_heap_other (by omega)).trans L)⟩
end
open Go.RowKit
abbrev WayD := Int × Int × List Int
abbrev CacheD := List (List WayD) × List Int
def emptyW : WayD := (-1, 0, [])
def clearB (u : WayD) : Bool := decide (u.1 = -1 ∧ u.2.1 = 0 ∧ u.2.2 = [])
def pow3 (n : Nat) : Prop := n = 1 ∨ n = 2 ∨ n = 4
section
variable (ln : List Int → Bool) (tok : Int → Int → Bool) (tou : Int → Int → Int → Int) (vic : Int → Int → Int)
def fullB (u : WayD) : Bool := decide ((0 ≤ u.1 ∧ u.1 ≤ 15) ∧ (1 ≤ u.2.1 ∧ u.2.1 ≤ 3) ∧ ln u.2.2 = true)
def RowOk (n s : Nat) (row : List WayD) : Prop :=
 (∀ (i : Nat) (u : WayD), row[i]? = some u → clearB u = true ∨ (fullB ln u = true ∧ u.1 % (n : Int) = s)) ∧
 ∀ (i k : Nat) (u x : WayD), row[i]? = some u → row[k]? = some x → 0 ≤ u.1 → u.1 = x.1 → i = k
def OkC (c : CacheD) : Prop :=
 pow3 c.1.length ∧ c.2.length = c.1.length ∧ ∃ m, pow3 m ∧ ∀ (s : Nat) (row : List WayD), c.1[s]? = some row → row.length = m ∧ (∃ t, c.2[s]? = some t ∧ tok t m = true) ∧ RowOk ln c.1.length s row
def setNo (c : CacheD) (line : Int) : Nat := (line % (c.1.length : Int)).toNat
def rowFor (c : CacheD) (line : Int) : List WayD := c.1.getD (setNo c line) []
def atC (c : CacheD) (line : Int) : Option Nat := if line < 0 then none else (rowFor c line).findIdx? fun u => u.1 == line
open Classical in
noncomputable def okB (c : CacheD) : Bool := decide (OkC ln tok c)
end
section
variable {ln : List Int → Bool} {tok : Int → Int → Bool} {tou : Int → Int → Int → Int} {vic : Int → Int → Int}
theorem okB_iff {c : CacheD} : okB ln tok c = true ↔ OkC ln tok c := by simp [okB]
theorem clear_eq {u : WayD} (h : clearB u = true) : u = emptyW := by
 simp [clearB] at h
 obtain ⟨a, b, d⟩ := u;simp at h
 simp [emptyW, h]
theorem full_line {u : WayD} (h : fullB ln u = true) : 0 ≤ u.1 ∧ u.1 ≤ 15 := by
 simp [fullB] at h
 exact h.1
theorem pow3_pos {n : Nat} (h : pow3 n) : 0 < n := by rcases h with h | h | h <;> omega
theorem setNo_lt {c : CacheD} {line : Int} (h : pow3 c.1.length) : setNo c line < c.1.length := by
 have := pow3_pos h;have h1 := Int.emod_nonneg line (show (c.1.length : Int) ≠ 0 by omega);have h2 := Int.emod_lt_of_pos line (show (0 : Int) < c.1.length by omega);unfold setNo;omega
theorem setNo_cast {c : CacheD} {line : Int} (h : pow3 c.1.length) : ((setNo c line : Nat) : Int) = line % (c.1.length : Int) := by
 have := pow3_pos h;have h1 := Int.emod_nonneg line (show (c.1.length : Int) ≠ 0 by omega);unfold setNo;omega
theorem rowFor_get {c : CacheD} {line : Int} (h : pow3 c.1.length) : c.1[setNo c line]? = some (rowFor c line) := by
 have := setNo_lt (line := line) h;unfold rowFor;rw [List.getD_eq_getElem?_getD, List.getElem?_eq_getElem this];rfl
theorem idx_some {p : WayD → Bool} {row : List WayD} {i : Nat} (h : row.findIdx? p = some i) : ∃ u, row[i]? = some u ∧ p u = true := by
 rw [List.findIdx?_eq_some_iff_getElem] at h;obtain ⟨a, b, _⟩ := h;exact ⟨row[i], List.getElem?_eq_getElem a, b⟩
theorem idx_none {p : WayD → Bool} {row : List WayD} (h : row.findIdx? p = none) {i : Nat} {u : WayD} (hu : row[i]? = some u) : p u = false := by
 rw [List.findIdx?_eq_none_iff] at h;exact by simpa using h u (List.mem_of_getElem? hu)
theorem idx_of {p : WayD → Bool} {row : List WayD} {i : Nat} {u : WayD} (hu : row[i]? = some u) (hp : p u = true) : ∃ k, row.findIdx? p = some k := by
 cases h : row.findIdx? p with
 | none => rw [idx_none h hu] at hp; cases hp
 | some k => exact ⟨k, rfl⟩
theorem at_some {c : CacheD} {line : Int} {i : Nat} (h : atC c line = some i) : 0 ≤ line ∧ ∃ u, (rowFor c line)[i]? = some u ∧ u.1 = line := by
 unfold atC at h;split at h
 ·cases h
 ·obtain ⟨u, a, b⟩ := idx_some h;exact ⟨by omega, u, a, by simpa using b⟩
theorem at_of {c : CacheD} {line : Int} (h0 : 0 ≤ line) {i : Nat} {u : WayD} (hu : (rowFor c line)[i]? = some u) (hl : u.1 = line) : ∃ k, atC c line = some k := by
 unfold atC;rw [if_neg (by omega)];exact idx_of hu (by simp [hl])
theorem at_iff {c : CacheD} {l : Int} {k : Nat} {u : WayD} (hr : ∀ (i k : Nat) (u x : WayD), (rowFor c l)[i]? = some u → (rowFor c l)[k]? = some x → 0 ≤ u.1 → u.1 = x.1 → i = k) (h0 : 0 ≤ l) (hu : (rowFor c l)[k]? = some u) (hl : u.1 = l) : atC c l = some k := by
 obtain ⟨j, a⟩ := at_of h0 hu hl;obtain ⟨_, x, b, he⟩ := at_some a;rw [a, hr j k x u b hu (by omega) (by omega)]
theorem getD_of {row : List WayD} {i : Nat} {u : WayD} (h : row[i]? = some u) : row.getD i emptyW = u := by
 rw [List.getD_eq_getElem?_getD, h];rfl
end
end Go.Proofs.YtdamokokcdcedaaGreatDoor
