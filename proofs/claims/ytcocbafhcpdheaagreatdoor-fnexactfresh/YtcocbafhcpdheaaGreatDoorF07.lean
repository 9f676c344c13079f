import Derived.Test.YtcocbafhcpdheaaGreatDoorF00Box
import Derived.LaidEql
import Derived.Stop.Asserts
import Derived.RowKitTokens
import Derived.LaidHandle
import Derived.Stop.Joined
import Derived.Test.YtcocbafhcpdheaaGreatDoorF06
namespace Go.Proofs.YtcocbafhcpdheaaGreatDoor
set_option maxHeartbeats 4000000
set_option maxRecDepth 100000
open Go.RowKit Go.Extern.Stop Go.Stop Go.Extern
set_option linter.unusedVariables false
abbrev refV (c : Int) : Value := .iface 243 (.int .i64 c)
abbrev fltV (n c : Int) : Value := .iface 275 (.agg #[.int .i64 n, .iface 243 (.int .i64 c)])
theorem er_typeOf (v : Value) (w : World) : (Extern.ReflectliteType.typeOf #[.iface 243 v]).run Tryz.prog w = .ok (.iface 286 (.agg #[.pointer (some ⟨2, 243, none⟩)])) w := by kernel_rfl
theorem er_typeOfF (v : Value) (w : World) : (Extern.ReflectliteType.typeOf #[.iface 275 v]).run Tryz.prog w = .ok (.iface 286 (.agg #[.pointer (some ⟨2, 275, none⟩)])) w := by kernel_rfl
def compF : Array Value → Sem Value := Extern.ReflectliteType.method fun t => do Extern.Rtype.noPackHeld "Comparable" t; pure (.bool (← typeInfo t).comparable)
theorem er_comp (w : World) : (compF #[.agg #[.pointer (some ⟨2, 243, none⟩)]]).run Tryz.prog w = .ok (.bool true) w := by kernel_rfl
theorem er_mComp (v : Value) (w : World) : (Go.method 436 286 v "Comparable").run Tryz.prog w = .ok (317, v) w := by kernel_rfl
theorem er_isComp : (Tryz.prog.info? 243).map (·.comparable) = some true := by kernel_rfl
theorem er_noIsR (v : Value) (xT : TypeId) (w : World) : (Instr.typeAssert (.iface 243 v) xT 302 true).run Tryz.prog w = .ok (.tuple #[.nilIface, .bool false]) w := run_typeAssert_lacksB Tryz.underlying302 (by kernel_rfl) (by kernel_rfl) v xT w
theorem er_noIsF (v : Value) (xT : TypeId) (w : World) : (Instr.typeAssert (.iface 275 v) xT 302 true).run Tryz.prog w = .ok (.tuple #[.nilIface, .bool false]) w := run_typeAssert_lacksB Tryz.underlying302 (by kernel_rfl) (by kernel_rfl) v xT w
theorem er_noUnR (v : Value) (xT : TypeId) (w : World) : (Instr.typeAssert (.iface 243 v) xT 294 true).run Tryz.prog w = .ok (.tuple #[.nilIface, .bool false]) w := run_typeAssert_lacksB Tryz.underlying294 (by kernel_rfl) (by kernel_rfl) v xT w
theorem er_noUnsR (v : Value) (xT : TypeId) (w : World) : (Instr.typeAssert (.iface 243 v) xT 296 true).run Tryz.prog w = .ok (.tuple #[.nilIface, .bool false]) w := run_typeAssert_lacksB Tryz.underlying296 (by kernel_rfl) (by kernel_rfl) v xT w
theorem er_hasUnF (v : Value) (xT : TypeId) (w : World) : (Instr.typeAssert (.iface 275 v) xT 294 true).run Tryz.prog w = .ok (.tuple #[.iface 275 v, .bool true]) w := run_typeAssert_hasB Tryz.underlying294 (by kernel_rfl) v xT w
theorem er_mUn (v : Value) (w : World) : (Go.method 436 275 v "Unwrap").run Tryz.prog w = .ok (314, v) w := by kernel_rfl
theorem er_eqR (a b : Int) (w : World) : (binOp .eql 213 (.iface 243 (.int .i64 a)) (.iface 243 (.int .i64 b))).run Tryz.prog w = .ok (.bool (a == b)) w := by
 obtain ⟨i, hi, hcmp⟩ := Option.map_eq_some_iff.1 er_isComp;have h : ∀ d : Nat, (Op.equalIn (d + 2) 213 (.iface 243 (.int .i64 a)) (.iface 243 (.int .i64 b))).run Tryz.prog w = .ok (a == b) w := fun d => by
  simp [Op.equalIn, run_underlying Tryz.underlying213, run_underlying Tryz.underlying243, typeInfo, hi, hcmp]
 simp only [binOp];simp [Op.equal, Op.maxDepth, h 9998]
theorem unwrap_any (n c : Int) (w : World) : Calls Tryz.prog 314 #[.agg #[.int .i64 n, .iface 243 (.int .i64 c)]] w fun e w' => e = .returned (.iface 243 (.int .i64 c)) ∧ Below w.heap.size w w' := by
 have bx := box_below w (.cells #[.int .i64 n, .iface 243 (.int .i64 c)] 275);go_enter Tryz.func314, Tryz.ntmps314;go_wp2;go_ret
 exact ⟨rfl, bx⟩
theorem isFault_any (n c d : Int) (w : World) : Calls Tryz.prog 261 #[.iface 275 (.agg #[.int .i64 n, .iface 243 (.int .i64 c)]), .iface 243 (.int .i64 d)] w fun e w' => e = .returned (.bool (c == d)) ∧ Below w.heap.size w w' := by
 have h8 := @run_callFunc_extern Tryz.prog 273 _ Extern.ReflectliteType.typeOf Tryz.func273 (by kernel_rfl) (by kernel_rfl) (by kernel_rfl) (by kernel_rfl);have h32 := @run_callFunc_extern Tryz.prog 317 _ compF Tryz.func317 (by kernel_rfl) (by kernel_rfl) (by kernel_rfl) (by kernel_rfl);have tT := er_typeOf;have cT := er_comp;have mR := er_mComp;have n1 := er_noIsR;have n2 := er_noIsF;have n3 := er_noUnR;have n4 := er_noUnsR;have n5 := er_hasUnF;have mU := er_mUn;have hty : ∀ W, (binOp .eql 213 (.iface 275 (.agg #[.int .i64 n, .iface 243 (.int .i64 c)])) (.iface 243 (.int .i64 d))).run Tryz.prog W = .ok (.bool false) W := fun W => run_eql_iface_types (P := Tryz.prog) 275 243 _ _ Tryz.underlying213 (by decide) W;have heq : ∀ W, _ := fun W => er_eqR c d W;generalize hq : (c == d) = q at heq ⊢;go_enter Tryz.func261, Tryz.ntmps261;go_wp2_with go_in
 refine wp_loop_rounds 2 ?_;rw [rounds_succ];go_wp2_with (go_at_call 314; refine (unwrap_any _ _ _).mono ?_; rintro e w1 ⟨rfl, bb⟩)
 rw [rounds_succ];have HB : Hid (Below w.heap.size w w1) := bb;clear bb hq;cases q
 ·go_wp2;go_ret
  exact ⟨rfl, HB.out⟩
 ·go_wp2;go_ret
  exact ⟨rfl, HB.out⟩
def Hold (w : World) : Prop := w.cell? ⟨1, 0, none⟩ = some (.iface 286 (.agg #[.pointer (some ⟨2, 213, none⟩)]))
theorem Hold.lt {w : World} (h : Hold w) : 1 < w.heap.size := cell_lt h
theorem Hold.goes {w W : World} (h : Hold w) (hb : Below w.heap.size w W) : Hold W := cell_keep hb h h.lt
abbrev hanV (t : Nat) : Value := .iface 286 (.agg #[.pointer (some ⟨2, t, none⟩)])
abbrev valP (a : Addr) : Value := .agg #[.pointer (some ⟨2, 245, none⟩), .pointer (some a), .int .u64 150]
abbrev valO (a : Addr) : Obj := .cells #[.pointer (some ⟨2, 245, none⟩), .pointer (some a), .int .u64 150] 265
def typeF : Array Value → Sem Value := ReflectliteValue.methodAny (ReflectliteValue.valueError "reflectlite.Value.Type" 0) (fun t _ _ _ => ReflectliteType.toType t)
def kindF : Array Value → Sem Value := ReflectliteType.abiMethod fun t => do pure (.int .u8 (← Rtype.kind t))
def isNilF : Array Value → Sem Value := ReflectliteValue.method (ReflectliteValue.valueError "reflectlite.Value.IsNil" 0) ReflectliteValue.isNil
def elemTF : Array Value → Sem Value := ReflectliteType.method ReflectliteType.elem
def implF : Array Value → Sem Value := ReflectliteType.relation "Implements" ReflectliteType.implements_
def asgnF : Array Value → Sem Value := ReflectliteType.relation "AssignableTo" ReflectliteType.assignableTo
def elemVF : Array Value → Sem Value := ReflectliteValue.method (ReflectliteValue.valueError "reflectlite.Value.Elem" 0) ReflectliteValue.elem
def unpF : Array Value → Sem Value := fun args => ReflectliteValue.unpack (args.getD 0 (.tuple #[]))
def setF : Array Value → Sem Value := ReflectliteValue.set
theorem as_unpP (t : Addr) (w : World) : (unpF #[.iface 245 (.pointer (some t))]).run Tryz.prog w = .ok (valP ⟨w.heap.size, 0, none⟩) (w.alloc (.cells #[.pointer (some t)] 245)) := by kernel_rfl
theorem as_type (a : Addr) (w : World) : (typeF #[valP a]).run Tryz.prog w = .ok (hanV 245) w := by kernel_rfl
theorem as_mKind (h : Value) (w : World) : (Go.method 436 286 (.agg #[h]) "Kind").run Tryz.prog w = .ok (301, h) w := by kernel_rfl
theorem as_kindP (w : World) : (kindF #[.pointer (some ⟨2, 245, none⟩)]).run Tryz.prog w = .ok (.int .u8 22) w := by kernel_rfl
theorem as_kindE (w : World) : (kindF #[.pointer (some ⟨2, 243, none⟩)]).run Tryz.prog w = .ok (.int .u8 6) w := by kernel_rfl
theorem mt1 {m : Array Value → Sort _} (v : Value) (h1 : ∀ v, m #[v]) (h2 : ∀ a, m a) : ReflectliteValue.method.match_2 m #[v] h1 h2 = h1 v := rfl
theorem mt2 {m : Array Value → Sort _} (v x : Value) (h1 : ∀ v x, m #[v, x]) (h2 : ∀ a, m a) : ReflectliteValue.set.match_3 m #[v, x] h1 h2 = h1 v x := rfl
theorem as_partsP (a : Addr) (w : World) : (ReflectliteValue.parts (valP a)).run Tryz.prog w = .ok (some (245, a, 150)) w := by kernel_rfl
theorem as_isNil (a p : Addr) (W : World) (ha : W.cell? a = some (.pointer (some p))) : (isNilF #[valP a]).run Tryz.prog W = .ok (.bool false) W := by
 unfold isNilF ReflectliteValue.method;rw [mt1];simp only [Sem.run_bind, as_partsP, Result.andThen];simp [ReflectliteValue.isNil, loadVar, isAgg, underlying, Tryz.underlying245, ha, Result.andThen]
theorem as_mElem (h : Value) (w : World) : (Go.method 436 286 (.agg #[h]) "Elem").run Tryz.prog w = .ok (318, .agg #[h]) w := by kernel_rfl
theorem as_mImpl (h : Value) (w : World) : (Go.method 436 286 (.agg #[h]) "Implements").run Tryz.prog w = .ok (319, .agg #[h]) w := by kernel_rfl
theorem as_mAsgn (h : Value) (w : World) : (Go.method 436 286 (.agg #[h]) "AssignableTo").run Tryz.prog w = .ok (316, .agg #[h]) w := by kernel_rfl
theorem as_elemT (w : World) : (elemTF #[.agg #[.pointer (some ⟨2, 245, none⟩)]]).run Tryz.prog w = .ok (hanV 243) w := by kernel_rfl
theorem as_impl (w : World) : (implF #[.agg #[.pointer (some ⟨2, 243, none⟩)], hanV 213]).run Tryz.prog w = .ok (.bool true) w := by kernel_rfl
theorem as_asgnR (w : World) : (asgnF #[.agg #[.pointer (some ⟨2, 243, none⟩)], hanV 243]).run Tryz.prog w = .ok (.bool true) w := by kernel_rfl
theorem as_asgnF (w : World) : (asgnF #[.agg #[.pointer (some ⟨2, 275, none⟩)], hanV 243]).run Tryz.prog w = .ok (.bool false) w := by kernel_rfl
theorem as_unpE (c : Int) (w : World) : (unpF #[.iface 243 (.int .i64 c)]).run Tryz.prog w = .ok (.agg #[.pointer (some ⟨2, 243, none⟩), .pointer (some ⟨w.heap.size, 0, none⟩), .int .u64 134]) (w.alloc (.cells #[.int .i64 c] 243)) := by kernel_rfl
theorem as_elemOf (w : World) : (Rtype.elem? 245).run Tryz.prog w = .ok (some 243) w := by kernel_rfl
theorem as_mkE (p : Addr) (w : World) : (ReflectliteValue.mk 243 p ReflectliteValue.flagAddr).run Tryz.prog w = .ok (.agg #[.pointer (some ⟨2, 243, none⟩), .pointer (some p), .int .u64 390]) w := by kernel_rfl
theorem as_elemV (a p : Addr) (W : World) (ha : W.cell? a = some (.pointer (some p))) : (elemVF #[valP a]).run Tryz.prog W = .ok (.agg #[.pointer (some ⟨2, 243, none⟩), .pointer (some p), .int .u64 390]) W := by
 unfold elemVF ReflectliteValue.method;rw [mt1];simp only [Sem.run_bind, as_partsP, Result.andThen];simp [ReflectliteValue.elem, loadVar, isAgg, underlying, Tryz.underlying245, ha, Result.andThen, as_elemOf, as_mkE]
theorem as_partsEa (a : Addr) (w : World) : (ReflectliteValue.parts (.agg #[.pointer (some ⟨2, 243, none⟩), .pointer (some a), .int .u64 390])).run Tryz.prog w = .ok (some (243, a, 390)) w := by kernel_rfl
theorem as_partsE (a : Addr) (w : World) : (ReflectliteValue.parts (.agg #[.pointer (some ⟨2, 243, none⟩), .pointer (some a), .int .u64 134])).run Tryz.prog w = .ok (some (243, a, 134)) w := by kernel_rfl
theorem as_direct (w : World) : (Rtype.directlyAssignable 243 243).run Tryz.prog w = .ok true w := by kernel_rfl
theorem as_set (ta b : Addr) (c : Int) (old : Value) (W : World) (hb : W.cell? b = some (.int .i64 c)) (ht : W.cell? ta = some old) (hf : W.frozen? ta = false) :
    (setF #[.agg #[.pointer (some ⟨2, 243, none⟩), .pointer (some ta), .int .u64 390], .agg #[.pointer (some ⟨2, 243, none⟩), .pointer (some b), .int .u64 134]]).run Tryz.prog W = .ok (.tuple #[]) (W.setCell ta (.int .i64 c)) := by
 unfold setF ReflectliteValue.set;rw [mt2];simp only [Sem.run_bind, as_partsEa, as_partsE, Result.andThen];simp [ReflectliteValue.flagAddr, loadVar, isAgg, underlying, Tryz.underlying243, hb, Result.andThen, as_direct, storeVar, Value.cells, storeCells, Addr.add]
 rw [run_store Tryz.prog W ta _ _ (by rfl)];simp [ht, hf]
theorem as_noAsF (v : Value) (xT : TypeId) (w : World) : (Instr.typeAssert (.iface 275 v) xT 291 true).run Tryz.prog w = .ok (.tuple #[.nilIface, .bool false]) w := run_typeAssert_lacksB Tryz.underlying291 (by kernel_rfl) (by kernel_rfl) v xT w
open Go.ChangeShapes Go.WideShapes Go.RowKit
abbrev holdL : List (String × DataW Unit) := [("errors.errorType", Rows.laid_errors_errorType)]
theorem gEt : Tryz.prog.globalNamed "errors.errorType" = some 1 := by kernel_rfl
theorem gRt : (Tryz.prog.cutTypes.find? (·.1 == "internal/reflectlite.rtype")).map (·.2) = some 286 := by kernel_rfl
theorem gRow : ((List.range 336).filter fun t => Tryz.prog.rowNamed t [101, 114, 114, 111, 114]) = [213] := by kernel_rfl
theorem gSize : Tryz.prog.types.size = 336 := by kernel_rfl
theorem hold_laid {W : World} (h : laidMetH Tryz.prog holdL W) : Hold W := by
 have h' : laidMet Tryz.prog [] W ∧ handlesMet Tryz.prog holdL W := h;obtain ⟨name, u, ty, e1, e2, e3, e4, e5⟩ := h'.2 _ (List.mem_singleton.2 rfl);have en : name = [101, 114, 114, 111, 114] := (Option.some.inj e1).symm;subst en;obtain rfl := Option.some.inj (gRt.symm.trans e2);have hm : ty ∈ (List.range 336).filter fun t => Tryz.prog.rowNamed t [101, 114, 114, 111, 114] := List.mem_filter.2 ⟨List.mem_range.2 (by rw [← gSize]; exact e3), e4⟩;rw [gRow] at hm;obtain rfl := List.mem_singleton.1 hm;have hh : typeHandle Tryz.prog 213 = .pointer (some ⟨2, 213, none⟩) := by kernel_rfl
 rw [hh] at e5;unfold Hold;simpa using World.var?_cell gEt e5 0
noncomputable def laidWorld (os : Os) : World :=
 { World.holding Tryz.prog os ⟨#[], #[], []⟩ with heap := (World.holding Tryz.prog os ⟨#[], #[], []⟩).heap.modify 1 fun
     | .cells _ t frozen => .cells #[.iface 286 (.agg #[.pointer (some ⟨2, 213, none⟩)])] t frozen
     | o => o }
structure HoldB (w : World) : Prop where
 han : Hold w
 tab : HoldT w
theorem HoldB.goes {w w' : World} (h : HoldB w) (hb : Below w.heap.size w w') : HoldB w' := ⟨h.han.goes hb, h.tab.goes hb⟩
abbrev holdLB : List (String × DataW Unit) := [("errors.errorType", Rows.laid_errors_errorType), (holdName, Rows.laid_loop_example_g00342_impl_holdings)]
theorem laid_parts {W : World} (h : laidMetH Tryz.prog holdLB W) : laidMet Tryz.prog holdLT W ∧ laidMetH Tryz.prog holdL W := by
 have h' : laidMet Tryz.prog holdLT W ∧ handlesMet Tryz.prog holdL W := h;exact ⟨h'.1, ⟨laidMet_nil _ _, h'.2⟩⟩
noncomputable def laidWorldB (os : Os) : World :=
 { laidWorld os with heap := (laidWorld os).heap.modify 0 fun
     | .cells _ t frozen => .cells holdC t frozen
     | o => o }
theorem laid_rowB (os : Os) (args : Array Value) : ((laidWorldB os).forCall (fun _ _ => 0) ⟨#[], args, []⟩).memory.heap[0]? = some (.cells holdC 195 (0, 0)) := by kernel_rfl
theorem laid_metD (os : Os) (args : Array Value) : laidMet Tryz.prog holdLT ((laidWorldB os).forCall (fun _ _ => 0) ⟨#[], args, []⟩).memory := by
 refine ⟨_, ⟨0, 195, holdC, 8, [], [], by kernel_rfl, by kernel_rfl, by kernel_rfl, by kernel_rfl, rfl, rfl⟩, by decide, fun b off h => ?_⟩;have h' : MemPlace.cell b off ∈ [MemPlace.cell 0 0, .cell 0 1, .cell 0 2, .cell 0 3, .cell 0 4, .cell 0 5, .cell 0 6, .cell 0 7, .cell 0 8, .cell 0 9, .cell 0 10, .cell 0 11] := h;have hb : b = 0 := by
  simp at h'
  omega
 subst hb;refine ⟨⟨_, _, laid_rowB os args⟩, fun u v hc => ?_⟩;simp only [World.cell?, laid_rowB os args] at hc;simp at h'
 rcases h' with rfl | rfl | rfl | rfl | rfl | rfl | rfl | rfl | rfl | rfl | rfl | rfl <;> simp [holdC] at hc
theorem laid_metB (os : Os) (args : Array Value) : laidMetH Tryz.prog holdLB ((laidWorldB os).forCall (fun _ _ => 0) ⟨#[], args, []⟩).memory :=
 laidMetH_of_parts (laid_metD os args) (by kernel_rfl)
open Go.ChangeShapes Go.WideShapes Go.ChangeAt Go.RowKit
theorem linesOk_any (k : Int) (w : World) : Calls Tryz.prog 160 #[.int .i64 k] w fun e w' => e = .returned (.bool (betw k 1 16)) ∧ w' = w := by
 go_enter Tryz.func160, Tryz.ntmps160;go_wp2_with (go_at_call 76; refine (between_any _ _ _ _).mono ?_; rintro e w' ⟨rfl, rfl⟩)
 go_ret
 exact ⟨rfl, rfl⟩
def powB (n : Int) : Bool := decide (n = 1 ∨ n = 2 ∨ n = 4)
theorem sizeOk_any (n : Int) (w : World) :
    Calls Tryz.prog 159 #[.int .i64 n] w fun e w' => e = .returned (.bool (powB n)) ∧ w' = w := by
 go_enter Tryz.func159, Tryz.ntmps159;go_wp2
 all_goals go_ret
 all_goals refine ⟨ret_bool ?_, rfl⟩
 all_goals first | (simp_all [powB]; done) | (rw [Bool.eq_iff_iff]; simp [powB]; omega)
theorem l2Pow_any (n : Int) (w : World) :
    Calls Tryz.prog 140 #[.int .i64 n] w fun e w' => e = .returned (.bool (powB n)) ∧ w' = w := by
 go_enter Tryz.func140, Tryz.ntmps140;go_wp2
 all_goals go_ret
 all_goals refine ⟨ret_bool ?_, rfl⟩
 all_goals first | (simp_all [powB]; done) | (rw [Bool.eq_iff_iff]; simp [powB]; omega)
def codeI (c s y l : Int) : Int := if betw c 1 4 then (if powB s then (if powB y then (if betw l 1 16 then 0 else 4) else 3) else 2) else 1
theorem specCode_any (c s y l : Int) (w : World) :
    Calls Tryz.prog 89 #[.agg #[.int .i64 c, .int .i64 s, .int .i64 y, .int .i64 l]] w fun e w' => e = .returned (.int .i64 (codeI c s y l)) ∧ Below w.heap.size w w' := by
 have B := (Below.refl w.heap.size w).alloc (Nat.le_refl _);unfold codeI;cases h1 : betw c 1 4 <;> cases h2 : powB s <;> cases h3 : powB y <;> cases h4 : betw l 1 16
 all_goals
  go_enter Tryz.func89, Tryz.ntmps89
  go_wp2_with (first
   | (go_at_call 98; refine (l1In_any _ _ _ _).mono ?_; rintro e w' ⟨rfl, rfl⟩)
   | (go_at_call 140; refine (l2Pow_any _ _).mono ?_; rintro e w' ⟨rfl, rfl⟩))
  go_ret
  exact ⟨rfl, B _⟩
theorem firstWrong_any (c s y l : Int) (w : World) :
    Calls Tryz.prog 119 #[.agg #[.int .i64 c, .int .i64 s, .int .i64 y, .int .i64 l], .int .i64 1] w fun e w' => e = .returned (.int .i64 (codeI c s y l)) ∧ Below w.heap.size w w' := by
 have B := (Below.refl w.heap.size w).alloc (Nat.le_refl _);unfold codeI;cases h1 : betw c 1 4 <;> cases h2 : powB s <;> cases h3 : powB y <;> cases h4 : betw l 1 16
 all_goals
  go_enter Tryz.func119, Tryz.ntmps119
  go_wp2_with (first
   | (go_at_call 76; refine (between_any _ _ _ _).mono ?_; rintro e w' ⟨rfl, rfl⟩)
   | (go_at_call 160; refine (linesOk_any _ _).mono ?_; rintro e w' ⟨rfl, rfl⟩)
   | (go_at_call 159; refine (sizeOk_any _ _).mono ?_; rintro e w' ⟨rfl, rfl⟩))
  go_ret
  exact ⟨rfl, B _⟩
theorem implCode_any (c s y l : Int) (w : World) :
    Calls Tryz.prog 70 #[.agg #[.int .i64 c, .int .i64 s, .int .i64 y, .int .i64 l]] w fun e w' => e = .returned (.int .i64 (codeI c s y l)) ∧ Below w.heap.size w w' := by
 have B := (Below.refl w.heap.size w).alloc (Nat.le_refl _);go_enter Tryz.func70, Tryz.ntmps70;go_wp2_with (go_at_call 119; refine (firstWrong_any _ _ _ _ _).mono ?_; rintro e w' ⟨rfl, b1⟩)
 go_ret
 exact ⟨rfl, below_step (B _) b1⟩
theorem code_zero {c s y l : Int} (h : codeI c s y l = 0) : (1 ≤ l ∧ l ≤ 16) ∧ (s = 1 ∨ s = 2 ∨ s = 4) := by
 unfold codeI at h;cases h1 : betw c 1 4 <;> cases h2 : powB s <;> cases h3 : powB y <;> cases h4 : betw l 1 16 <;> simp [h1, h2, h3, h4] at h
 simp [betw] at h4
 simp [powB] at h2
 exact ⟨h4, h2⟩
def lineB (c s y l k : Int) : Bool := decide (codeI c s y l = 0 ∧ 0 ≤ k ∧ k < l)
def addrB (c s y l k : Int) : Bool := decide (codeI c s y l = 0 ∧ 0 ≤ k ∧ k < 2 * l)
theorem box_cell {w w1 : World} {cs : Array Value} {t : TypeId} (h : Below (w.alloc (.cells cs t)).heap.size (w.alloc (.cells cs t)) w1) (j : Nat) : w1.cell? ⟨w.heap.size, j, none⟩ = cs[j]? := by
 rw [h.cell (by simp), cell_of_row (w.alloc (.cells cs t)) w.heap.size j cs t (0, 0) (heap_alloc_new w _)]
theorem hasLine_any (c s y l k : Int) (w : World) :
    Calls Tryz.prog 36 #[.agg #[.int .i64 c, .int .i64 s, .int .i64 y, .int .i64 l], .int .i64 k] w fun e w' => e = .returned (.bool (lineB c s y l k)) ∧ Below w.heap.size w w' := by
 have B := (Below.refl w.heap.size w).alloc (Nat.le_refl _);by_cases h0 : codeI c s y l = 0
 ·obtain ⟨hl, hs⟩ := code_zero h0;have h0' : (codeI c s y l == 0) = true := by simp [h0]
  have HL : Hid (lineB c s y l k = betw k 0 (l - 1)) := by
   unfold Hid lineB betw;simp only [h0, true_and];rw [Bool.eq_iff_iff];simp
   omega
  clear h0 hs;go_enter Tryz.func36, Tryz.ntmps36;go_wp2_with fail
  refine (implCode_any _ _ _ _ _).mono ?_;rintro e w1 ⟨rfl, b1⟩;have c3 := (box_cell b1 3);simp only [List.getElem?_toArray, List.getElem?_cons_succ, List.getElem?_cons_zero] at c3;go_wp2_with (go_at_call 76; refine (between_any _ _ _ _).mono ?_; rintro e w' ⟨rfl, rfl⟩)
  go_ret
  exact ⟨ret_bool HL.out.symm, below_step (B _) b1⟩
 ·have h0' : (codeI c s y l == 0) = false := by simp [h0]
  have HL : Hid (lineB c s y l k = false) := by
   unfold Hid lineB;simp [h0]
  clear h0;go_enter Tryz.func36, Tryz.ntmps36;go_wp2_with (go_at_call 70; refine (implCode_any _ _ _ _ _).mono ?_; rintro e w1 ⟨rfl, b1⟩)
  go_ret
  exact ⟨ret_bool HL.out.symm, below_step (B _) b1⟩
theorem lineB_eq {c s y l a : Int} (h : codeI c s y l = 0) : lineB c s y l a = betw a 0 (l - 1) := by
 unfold lineB betw;simp only [h, true_and];rw [Bool.eq_iff_iff];simp
 omega
theorem l2Addr_any (c s y l a : Int) (w : World) (hl : 1 ≤ l ∧ l ≤ 16) :
    Calls Tryz.prog 151 #[.agg #[.int .i64 c, .int .i64 s, .int .i64 y, .int .i64 l], .int .i64 a] w fun e w' => e = .returned (.bool (betw a 0 (2 * l - 1))) ∧ Below w.heap.size w w' := by
 have B := (Below.refl w.heap.size w).alloc (Nat.le_refl _);by_cases h1 : 0 ≤ a
 ·by_cases h2 : a < 2 * l
  all_goals
   go_enter Tryz.func151, Tryz.ntmps151;go_wp2;go_ret
   exact ⟨ret_bool (by unfold betw; rw [Bool.eq_iff_iff]; simp; omega), B _⟩
 ·go_enter Tryz.func151, Tryz.ntmps151;go_wp2;go_ret
  exact ⟨ret_bool (by unfold betw; rw [Bool.eq_iff_iff]; simp; omega), B _⟩
theorem addrB_half (c s y l a : Int) (h : 0 ≤ a) : lineB c s y l (a / 2) = addrB c s y l a := by
 unfold addrB lineB;rw [Bool.eq_iff_iff];simp
 intro _;omega
theorem addrB_neg (c s y l a : Int) (h : ¬ 0 ≤ a) : addrB c s y l a = false := by
 unfold addrB;simp
 omega
theorem hasAddr_any (c s y l a : Int) (w : World) (hw : 0 ≤ a → wrap64 (a.tdiv 2) = a / 2) :
    Calls Tryz.prog 252 #[.agg #[.int .i64 c, .int .i64 s, .int .i64 y, .int .i64 l], .int .i64 a] w fun e w' => e = .returned (.bool (addrB c s y l a)) ∧ Below w.heap.size w w' := by
 have B := (Below.refl w.heap.size w).alloc (Nat.le_refl _);by_cases h1 : 0 ≤ a
 ·have H := addrB_half c s y l a h1;have H' : Hid _ := H;have hw' := hw h1;clear H hw;go_enter Tryz.func252, Tryz.ntmps252;go_wp2_with (go_at_call 36; refine (hasLine_any _ _ _ _ _ _).mono ?_; rintro e w1 ⟨rfl, b1⟩)
  go_ret
  exact ⟨ret_bool H'.out, below_step (B _) b1⟩
 ·have H' : Hid _ := addrB_neg c s y l a h1;clear hw;go_enter Tryz.func252, Tryz.ntmps252;go_wp2;go_ret
  exact ⟨ret_bool H'.out.symm, B _⟩
abbrev OpD := Int × Int × Int × Int
abbrev opR : Rep OpD := prodR intR (prodR intR (prodR intR intR))
abbrev opM : Mk OpD := prodM intM (prodM intM (prodM intM intM))
abbrev opsR : Rep (List OpD) := slR 121 opR
abbrev opsM : Mk (List OpD) := slM opM
def In4 (u : OpD) : Prop := In64 u.1 ∧ In64 u.2.1 ∧ In64 u.2.2.1 ∧ In64 u.2.2.2
theorem opens_op : Opens Tryz.prog 112 opR :=
 opens_struct Tryz.underlying112 (by kernel_rfl) (opensF_cons rfl (by kernel_rfl) opens_i64 (opensF_cons rfl (by kernel_rfl) opens_i64 (opensF_cons rfl (by kernel_rfl) opens_i64 (opensF_one rfl (by kernel_rfl) opens_i64))))
theorem opens_ops : Opens Tryz.prog 102 opsR := opens_slice Tryz.underlying102 (by kernel_rfl) (by decide) opens_op
theorem op_rd {w : World} {cs : List Value} {u : OpD} (h : opR.rd w cs u) : cs = [.int .i64 u.1, .int .i64 u.2.1, .int .i64 u.2.2.1, .int .i64 u.2.2.2] ∧ In4 u := by
 obtain ⟨c0, e0, rfl, ⟨rfl, i0⟩, c1, e1, rfl, ⟨rfl, i1⟩, c2, e2, rfl, ⟨rfl, i2⟩, ⟨rfl, i3⟩⟩ := h;exact ⟨rfl, i0, i1, i2, i3⟩
theorem own_op {w : World} {S : Foot} {u : OpD} (h : In4 u) : opR.own w S [.int .i64 u.1, .int .i64 u.2.1, .int .i64 u.2.2.1, .int .i64 u.2.2.2] u :=
 ⟨[_], [_, _, _], fun _ => False, S, rfl, ⟨rfl, h.1⟩, ⟨[_], [_, _], fun _ => False, S, rfl, ⟨rfl, h.2.1⟩, ⟨[_], [_], fun _ => False, S, rfl, ⟨rfl, h.2.2.1⟩, ⟨rfl, h.2.2.2⟩, fun _ h => h.elim, Sub.refl _, fun _ h _ => h⟩, fun _ h => h.elim, Sub.refl _, fun _ h _ => h⟩, fun _ h => h.elim, Sub.refl _, fun _ h _ => h⟩
theorem made_op {w w' : World} {u : OpD} (h : In4 u) (hb : Below w.heap.size w w') : MadeR opR w w' [.int .i64 u.1, .int .i64 u.2.1, .int .i64 u.2.2.1, .int .i64 u.2.2.2] u := ⟨own_op h, hb⟩
theorem sumbk_ops (xs : List OpD) : sumbk opM xs = 0 := by
 induction xs with
 | nil => rfl
 | cons x xs ih => simp only [sumbk, List.map_cons, List.sum_cons] at ih ⊢; rw [ih]; rfl
theorem bk_ops (xs : List OpD) : opsM.bk xs = xs.length := by
 have h1 : opsM.bk xs = xs.length + sumbk opM xs := rfl;rw [h1, sumbk_ops]; rfl
theorem op_at {w : World} {a : Option Addr} {xs : List OpD} (h : SlRd opR w a xs) {k : Nat} {x : OpD} (hx : xs[k]? = some x) : ∃ b off, a = some ⟨b, off, none⟩ ∧ w.cell? ⟨b, off + k * 4, none⟩ = some (.int .i64 x.1) ∧ w.cell? ⟨b, off + k * 4 + 1, none⟩ = some (.int .i64 x.2.1) ∧ w.cell? ⟨b, off + k * 4 + 2, none⟩ = some (.int .i64 x.2.2.1) ∧ w.cell? ⟨b, off + k * 4 + 3, none⟩ = some (.int .i64 x.2.2.2) ∧ In4 x := by
 obtain ⟨b, off, cs, rfl, hrd, hc⟩ := slrd_at h hx;obtain ⟨rfl, h4⟩ := op_rd hrd;exact ⟨b, off, rfl, hc 0 _ rfl, hc 1 _ rfl, hc 2 _ rfl, hc 3 _ rfl, h4⟩
theorem szOpS_rep (a : Option Addr) (xs : List OpD) (cap : Nat) (left : Int) (w : World) (h0 : 0 ≤ left) (h1 : left ≤ 1048576) (hm : xs.length ≤ maxLen) :
    Calls Tryz.prog 109 #[.slice a xs.length cap, .int .i64 left] w fun e w' => e = .returned (.int .i64 (szI (opsM.bk xs) left)) ∧ w' = w := by
 have hm' : xs.length ≤ 9223372036854775807 := hm;rw [bk_ops];by_cases hl : (xs.length : Int) ≤ left
 ·have HS : Hid (szI xs.length left = _) := szI_yes hl;have hl' : ¬ (left - (xs.length : Int) < 0) := by omega
  go_enter Tryz.func109, Tryz.ntmps109;go_wp2;go_ret
  exact ⟨ret_int HS.out.symm, rfl⟩
 ·have HS : Hid (szI xs.length left = _) := szI_no hl;have hl' : left - (xs.length : Int) < 0 := by omega
  go_enter Tryz.func109, Tryz.ntmps109;go_wp2;go_ret
  exact ⟨ret_int HS.out.symm, rfl⟩
theorem toOp_rep (k a x y : Int) (w : World) :
    Calls Tryz.prog 118 #[.agg #[.int .i64 k, .int .i64 a, .int .i64 x, .int .i64 y]] w fun e w' => e = .returned (.agg #[.int .i64 k, .int .i64 a, .int .i64 x, .int .i64 y]) ∧ Below w.heap.size w w' := by
 have HB : Hid (∀ o o' o'', Below w.heap.size w (((w.alloc o).alloc o').alloc o'')) := fun o o' o'' => below_step (below_step (box_below w o) (box_below _ o')) (box_below _ o'');go_enter Tryz.func118, Tryz.ntmps118;go_wp2;refine bodyPost_ret (v := .agg #[.int .i64 k, .int .i64 a, .int .i64 x, .int .i64 y]) (by simp [results, Tryz.results118, go_sem]) rfl ⟨rfl, ?_⟩;exact HB.out _ _ _
theorem Tryz.infoOp : (Tryz.prog.info? 121).map (fun i => (i.zero, i.size, i.bytes)) = some (some (.agg #[.int .i64 0, .int .i64 0, .int .i64 0, .int .i64 0]), 4, 32) := by kernel_rfl
theorem toOpS_rep (a : Option Addr) (xs : List OpD) (cap : Nat) (w : World) (h : SlRd opR w a xs) (hm : opsM.bk xs ≤ 1048576) :
    Calls Tryz.prog 115 #[.slice a xs.length cap] w fun e w' => ∃ v, e = .returned v ∧ MadeR opsR w w' [v] xs := by
 rw [bk_ops] at hm;have H0 : Hid (SlRd opR w a xs) := h;clear h;have hmk := run_make_wide (P := Tryz.prog) 93 121 (.agg #[.int .i64 0, .int .i64 0, .int .i64 0, .int .i64 0]) 4 32 Tryz.underlying93 Tryz.infoOp xs.length (by omega) (by omega);go_enter Tryz.func115, Tryz.ntmps115;go_wp2;go_loopw [4] (fun i wr => ∃ k : Nat, k ≤ xs.length ∧ i = .int .i64 k ∧ Fill 121 opR w wr xs.length (xs.take k)) (fun i _ => xs.length - (intOf i).toNat)
 case atStart => exact ⟨0, Nat.zero_le _, rfl, by simpa using fillR_start (e := 121) (R := opR) (w0 := w) (n := xs.length) (cs := madeCells #[.int .i64 0, .int .i64 0, .int .i64 0, .int .i64 0] (xs.length * 4)) (by unfold maxLen; omega) (by rw [size_madeCells]; rfl)⟩
 case round =>
  obtain ⟨k, hk, rfl, hF⟩ := hrel;by_cases hlt : k < xs.length
  ·have hlt' : (k : Int) < (xs.length : Int) := by omega
   obtain ⟨x, hx⟩ : ∃ x, xs[k]? = some x := ⟨_, List.getElem?_eq_getElem hlt⟩;obtain ⟨b, off, rfl, x0, x1, x2, x3, h4⟩ := op_at (slrd_next H0.out (fill_below hF)) hx;have FS : Hid (∀ w1 c, MadeR opR wr w1 c x → _) := fun w1 c hm => fillR_step (w1 := w1) (c := c) hF (by simp; omega) hlt hm;have HP : Hid (xs.take k ++ [x] = xs.take (k + 1)) := by unfold Hid; rw [List.take_add_one, hx]; rfl
   have H4 : Hid (In4 x) := h4;clear hx hmk hF h4;go_wp2_with fail
   refine (toOp_rep x.1 x.2.1 x.2.2.1 x.2.2.2 _).mono ?_;rintro e w1 ⟨rfl, bb⟩;obtain ⟨q1, q2, F1⟩ := FS.out _ _ (made_op H4.out bb);obtain ⟨v0, hv0⟩ := q1 0 (by decide);obtain ⟨v1, hv1⟩ := q1 1 (by decide);obtain ⟨v2, hv2⟩ := q1 2 (by decide);obtain ⟨v3, hv3⟩ := q1 3 (by decide);have z0 := q2 (k * 4);have z1 := q2 (k * 4 + 1);have z2 := q2 (k * 4 + 2);have z3 := q2 (k * 4 + 3);rw [show k * opR.size + 0 = k * 4 from rfl] at hv0;rw [show k * opR.size + 1 = k * 4 + 1 from rfl] at hv1;rw [show k * opR.size + 2 = k * 4 + 2 from rfl] at hv2;rw [show k * opR.size + 3 = k * 4 + 3 from rfl] at hv3;rw [HP.out] at F1;have HF : Hid _ := F1;clear F1 bb q1 q2 FS x0 x1 x2 x3;go_wp2;go_roundw
   case rel => exact ⟨k + 1, by omega, by go_num, HF.out⟩
   case measure => simp [intOf]; omega
  ·have hkl : k = xs.length := by omega
   subst hkl;rw [List.take_length] at hF;have FE := fillR_end hF rfl;clear hF;go_wp2;go_ret
   exact ⟨_, rfl, FE⟩
theorem eqOp_rep (k a x y : Int) (w : World) :
    Calls Tryz.prog 138 #[.agg #[.int .i64 k, .int .i64 a, .int .i64 x, .int .i64 y], .agg #[.int .i64 k, .int .i64 a, .int .i64 x, .int .i64 y]] w fun e w' => e = .returned (.bool true) ∧ Below w.heap.size w w' := by
 have HB : Hid (∀ o o', Below w.heap.size w ((w.alloc o).alloc o')) := fun o o' => below_step (box_below w o) (box_below _ o');go_enter Tryz.func138, Tryz.ntmps138;go_wp2;go_ret
 exact ⟨rfl, HB.out _ _⟩
theorem eqOpS_rep (a1 a2 : Option Addr) (xs : List OpD) (c1 c2 : Nat) (w : World) (h1 : SlRd opR w a1 xs) (h2 : SlRd opR w a2 xs) (hm : opsM.bk xs ≤ 1152921504606846976) :
    Calls Tryz.prog 135 #[.slice a1 xs.length c1, .slice a2 xs.length c2] w fun e w' => e = .returned (.bool true) ∧ Below w.heap.size w w' := by
 rw [bk_ops] at hm;have H1 : Hid (∀ W, Below w.heap.size w W → SlRd opR W a1 xs) := fun W hb => slrd_keep h1 fun k hk => hb.block k hk;have H2 : Hid (∀ W, Below w.heap.size w W → SlRd opR W a2 xs) := fun W hb => slrd_keep h2 fun k hk => hb.block k hk;clear h1 h2;go_enter Tryz.func135, Tryz.ntmps135;go_wp2;go_loopw [5] (fun i wr => ∃ k : Nat, k ≤ xs.length ∧ i = .int .i64 k ∧ Below w.heap.size w wr) (fun i _ => xs.length - (intOf i).toNat)
 case atStart => exact ⟨0, Nat.zero_le _, rfl, Below.refl _ _⟩
 case round =>
  obtain ⟨k, hk, rfl, BB⟩ := hrel;by_cases hlt : k < xs.length
  ·have hlt' : (k : Int) < (xs.length : Int) := by omega
   obtain ⟨x, hx⟩ : ∃ x, xs[k]? = some x := ⟨_, List.getElem?_eq_getElem hlt⟩;obtain ⟨b1, off1, rfl, x10, x11, x12, x13, -⟩ := op_at (H1.out _ BB) hx;obtain ⟨b2, off2, rfl, x20, x21, x22, x23, -⟩ := op_at (H2.out _ BB) hx;have x10c : ∀ n : Cls (fun wx => Below wr.heap.size wr wx), n.w.cell? ⟨b1, off1 + k * 4, none⟩ = some (.int .i64 x.1) := fun n => cell_keep n.h x10 (cell_lt x10);have x11c : ∀ n : Cls (fun wx => Below wr.heap.size wr wx), n.w.cell? ⟨b1, off1 + k * 4 + 1, none⟩ = some (.int .i64 x.2.1) := fun n => cell_keep n.h x11 (cell_lt x11);have x12c : ∀ n : Cls (fun wx => Below wr.heap.size wr wx), n.w.cell? ⟨b1, off1 + k * 4 + 2, none⟩ = some (.int .i64 x.2.2.1) := fun n => cell_keep n.h x12 (cell_lt x12);have x13c : ∀ n : Cls (fun wx => Below wr.heap.size wr wx), n.w.cell? ⟨b1, off1 + k * 4 + 3, none⟩ = some (.int .i64 x.2.2.2) := fun n => cell_keep n.h x13 (cell_lt x13);have x20c : ∀ n : Cls (fun wx => Below wr.heap.size wr wx), n.w.cell? ⟨b2, off2 + k * 4, none⟩ = some (.int .i64 x.1) := fun n => cell_keep n.h x20 (cell_lt x20);have x21c : ∀ n : Cls (fun wx => Below wr.heap.size wr wx), n.w.cell? ⟨b2, off2 + k * 4 + 1, none⟩ = some (.int .i64 x.2.1) := fun n => cell_keep n.h x21 (cell_lt x21);have x22c : ∀ n : Cls (fun wx => Below wr.heap.size wr wx), n.w.cell? ⟨b2, off2 + k * 4 + 2, none⟩ = some (.int .i64 x.2.2.1) := fun n => cell_keep n.h x22 (cell_lt x22);have x23c : ∀ n : Cls (fun wx => Below wr.heap.size wr wx), n.w.cell? ⟨b2, off2 + k * 4 + 3, none⟩ = some (.int .i64 x.2.2.2) := fun n => cell_keep n.h x23 (cell_lt x23);clear hx x10 x11 x12 x13 x20 x21 x22 x23;go_wp2_with fail
   refine region_class (fun wx => Below wr.heap.size wr wx) (by kernel_rfl) (by kernel_rfl) ((Below.refl _ wr).drew) ?_;intro hne;repeat (quiet_step ((go_at_call 138; exact calls_class (eqOp_rep x.1 x.2.1 x.2.2.1 x.2.2.2 _) (fun w' hc bb => below_step hc bb))))
   refine wpQuiet_nil ?_;intro wx b2;replace BB := below_step BB b2;clear b2 hne x10c x20c x11c x21c x12c x22c x13c x23c;go_wp2;go_roundw
   case rel => exact ⟨k + 1, by omega, by go_num, BB⟩
   case measure => simp [intOf]; omega
  ·go_wp2;go_ret
   exact ⟨rfl, BB⟩
abbrev CfgD := Int × Int × Int × Int
abbrev cfgR : Rep CfgD := prodR intR (prodR intR (prodR intR intR))
theorem opens_cfg : Opens Tryz.prog 23 cfgR :=
 opens_struct Tryz.underlying23 (by kernel_rfl) (opensF_cons rfl (by kernel_rfl) opens_i64 (opensF_cons rfl (by kernel_rfl) opens_i64 (opensF_cons rfl (by kernel_rfl) opens_i64 (opensF_one rfl (by kernel_rfl) opens_i64))))
theorem cfg_rd {w : World} {cs : List Value} {u : CfgD} (h : cfgR.rd w cs u) : cs = [.int .i64 u.1, .int .i64 u.2.1, .int .i64 u.2.2.1, .int .i64 u.2.2.2] ∧ In64 u.1 ∧ In64 u.2.1 ∧ In64 u.2.2.1 ∧ In64 u.2.2.2 := by
 obtain ⟨c0, e0, rfl, ⟨rfl, i0⟩, c1, e1, rfl, ⟨rfl, i1⟩, c2, e2, rfl, ⟨rfl, i2⟩, ⟨rfl, i3⟩⟩ := h;exact ⟨rfl, i0, i1, i2, i3⟩
abbrev cfgM : Mk CfgD := prodM intM (prodM intM (prodM intM intM))
theorem op_rd4 {w : World} {cs : List Value} {u : OpD} (h : opR.rd w cs u) : cs = [.int .i64 u.1, .int .i64 u.2.1, .int .i64 u.2.2.1, .int .i64 u.2.2.2] ∧ True := ⟨(op_rd h).1, trivial⟩
theorem cfg_rd4 {w : World} {cs : List Value} {u : CfgD} (h : cfgR.rd w cs u) : cs = [.int .i64 u.1, .int .i64 u.2.1, .int .i64 u.2.2.1, .int .i64 u.2.2.2] ∧ True := ⟨(cfg_rd h).1, trivial⟩
theorem own_cfg {w : World} {S : Foot} {u : CfgD} (i0 : In64 u.1) (i1 : In64 u.2.1) (i2 : In64 u.2.2.1) (i3 : In64 u.2.2.2) : cfgR.own w S [.int .i64 u.1, .int .i64 u.2.1, .int .i64 u.2.2.1, .int .i64 u.2.2.2] u := own_op (u := u) ⟨i0, i1, i2, i3⟩
theorem toOp_u : ToC 118 opR opM aggV := by
 intro cs x w h hm;obtain ⟨rfl, h4⟩ := op_rd h;refine (toOp_rep x.1 x.2.1 x.2.2.1 x.2.2.2 w).mono ?_;rintro e w' ⟨rfl, b⟩;exact ⟨[_, _, _, _], rfl, own_op h4, b⟩
theorem eqOp_u : EqC 138 opR opM aggV := by
 intro cs ds x w h k hm;obtain ⟨rfl, -⟩ := op_rd h;obtain ⟨rfl, -⟩ := op_rd k;exact eqOp_rep x.1 x.2.1 x.2.2.1 x.2.2.2 w
theorem toConfig_rep (k a x y : Int) (w : World) :
    Calls Tryz.prog 29 #[.agg #[.int .i64 k, .int .i64 a, .int .i64 x, .int .i64 y]] w fun e w' => e = .returned (.agg #[.int .i64 k, .int .i64 a, .int .i64 x, .int .i64 y]) ∧ Below w.heap.size w w' := by
 have HB : Hid (∀ o o' o'', Below w.heap.size w (((w.alloc o).alloc o').alloc o'')) := fun o o' o'' => below_step (below_step (box_below w o) (box_below _ o')) (box_below _ o'');go_enter Tryz.func29, Tryz.ntmps29;go_wp2;refine bodyPost_ret (v := .agg #[.int .i64 k, .int .i64 a, .int .i64 x, .int .i64 y]) (by simp [results, Tryz.results29, go_sem]) rfl ⟨rfl, ?_⟩;exact HB.out _ _ _
theorem toConfig_u : ToC 29 cfgR cfgM aggV := by
 intro cs x w h hm;obtain ⟨rfl, i0, i1, i2, i3⟩ := cfg_rd h;refine (toConfig_rep x.1 x.2.1 x.2.2.1 x.2.2.2 w).mono ?_;rintro e w' ⟨rfl, b⟩;exact ⟨[_, _, _, _], rfl, own_cfg i0 i1 i2 i3, b⟩
theorem eqConfig_rep (k a x y : Int) (w : World) :
    Calls Tryz.prog 38 #[.agg #[.int .i64 k, .int .i64 a, .int .i64 x, .int .i64 y], .agg #[.int .i64 k, .int .i64 a, .int .i64 x, .int .i64 y]] w fun e w' => e = .returned (.bool true) ∧ Below w.heap.size w w' := by
 have HB : Hid (∀ o o', Below w.heap.size w ((w.alloc o).alloc o')) := fun o o' => below_step (box_below w o) (box_below _ o');go_enter Tryz.func38, Tryz.ntmps38;go_wp2;go_ret
 exact ⟨rfl, HB.out _ _⟩
theorem eqConfig_u : EqC 38 cfgR cfgM aggV := by
 intro cs ds x w h k hm;obtain ⟨rfl, -⟩ := cfg_rd h;obtain ⟨rfl, -⟩ := cfg_rd k;exact eqConfig_rep x.1 x.2.1 x.2.2.1 x.2.2.2 w
end Go.Proofs.YtcocbafhcpdheaaGreatDoor
