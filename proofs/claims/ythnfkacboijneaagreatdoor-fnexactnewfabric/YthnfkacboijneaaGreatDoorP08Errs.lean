import Derived.Test.YthnfkacboijneaaGreatDoorChecked
import Derived.Test.YthnfkacboijneaaGreatDoorP05Boxes
import Derived.WalkKit
import Derived.LaidEql
import Derived.Stop.Asserts
import Derived.RowKitTokens
import Derived.Test.YthnfkacboijneaaGreatDoorCards
import Derived.Test.YthnfkacboijneaaGreatDoorTie
import Derived.ChangeSame
import Derived.ChangeVars
import Derived.JoinedOf
import Derived.RowKit
import Derived.LaidLaws
import Derived.LaidHandle
import Derived.SevenTiedAt
import Derived.Stop.Joined
import Derived.Deep.RegionWith
namespace Go.Proofs.YthnfkacboijneaaGreatDoor
set_option maxHeartbeats 4000000
open Go.RowKit Go.Extern.Stop Go.Stop Go.Extern
set_option linter.unusedVariables false
abbrev refV (c : Int) : Value := .iface 250 (.int .i64 c)
abbrev fltV (n c : Int) : Value := .iface 290 (.agg #[.int .i64 n, .iface 250 (.int .i64 c)])
theorem er_typeOf (v : Value) (w : World) : (Extern.ReflectliteType.typeOf #[.iface 250 v]).run Tryz.prog w = .ok (.iface 299 (.agg #[.pointer (some ⟨1, 250, none⟩)])) w := by kernel_rfl
theorem er_typeOfF (v : Value) (w : World) : (Extern.ReflectliteType.typeOf #[.iface 290 v]).run Tryz.prog w = .ok (.iface 299 (.agg #[.pointer (some ⟨1, 290, none⟩)])) w := by kernel_rfl
def compF : Array Value → Sem Value := Extern.ReflectliteType.method fun t => do Extern.Rtype.noPackHeld "Comparable" t; pure (.bool (← typeInfo t).comparable)
theorem er_comp (w : World) : (compF #[.agg #[.pointer (some ⟨1, 250, none⟩)]]).run Tryz.prog w = .ok (.bool true) w := by kernel_rfl
theorem er_mComp (v : Value) (w : World) : (Go.method 447 299 v "Comparable").run Tryz.prog w = .ok (323, v) w := by kernel_rfl
theorem er_isComp : (Tryz.prog.info? 250).map (·.comparable) = some true := by kernel_rfl
theorem er_noIsR (v : Value) (xT : TypeId) (w : World) : (Instr.typeAssert (.iface 250 v) xT 314 true).run Tryz.prog w = .ok (.tuple #[.nilIface, .bool false]) w := run_typeAssert_lacksB Tryz.underlying314 (by kernel_rfl) (by kernel_rfl) v xT w
theorem er_noIsF (v : Value) (xT : TypeId) (w : World) : (Instr.typeAssert (.iface 290 v) xT 314 true).run Tryz.prog w = .ok (.tuple #[.nilIface, .bool false]) w := run_typeAssert_lacksB Tryz.underlying314 (by kernel_rfl) (by kernel_rfl) v xT w
theorem er_noUnR (v : Value) (xT : TypeId) (w : World) : (Instr.typeAssert (.iface 250 v) xT 307 true).run Tryz.prog w = .ok (.tuple #[.nilIface, .bool false]) w := run_typeAssert_lacksB Tryz.underlying307 (by kernel_rfl) (by kernel_rfl) v xT w
theorem er_noUnsR (v : Value) (xT : TypeId) (w : World) : (Instr.typeAssert (.iface 250 v) xT 309 true).run Tryz.prog w = .ok (.tuple #[.nilIface, .bool false]) w := run_typeAssert_lacksB Tryz.underlying309 (by kernel_rfl) (by kernel_rfl) v xT w
theorem er_hasUnF (v : Value) (xT : TypeId) (w : World) : (Instr.typeAssert (.iface 290 v) xT 307 true).run Tryz.prog w = .ok (.tuple #[.iface 290 v, .bool true]) w := run_typeAssert_hasB Tryz.underlying307 (by kernel_rfl) v xT w
theorem er_mUn (v : Value) (w : World) : (Go.method 447 290 v "Unwrap").run Tryz.prog w = .ok (320, v) w := by kernel_rfl
theorem er_eqR (a b : Int) (w : World) : (binOp .eql 214 (.iface 250 (.int .i64 a)) (.iface 250 (.int .i64 b))).run Tryz.prog w = .ok (.bool (a == b)) w := by
 obtain ⟨i, hi, hcmp⟩ := Option.map_eq_some_iff.1 er_isComp
 have h : ∀ d : Nat, (Op.equalIn (d + 2) 214 (.iface 250 (.int .i64 a)) (.iface 250 (.int .i64 b))).run Tryz.prog w = .ok (a == b) w := fun d => by
  simp [Op.equalIn, run_underlying Tryz.underlying214, run_underlying Tryz.underlying250, typeInfo, hi, hcmp]
 simp only [binOp]
 simp [Op.equal, Op.maxDepth, h 9998]
theorem unwrap_any (n c : Int) (w : World) : Calls Tryz.prog 320 #[.agg #[.int .i64 n, .iface 250 (.int .i64 c)]] w fun e w' => e = .returned (.iface 250 (.int .i64 c)) ∧ Below w.heap.size w w' := by
 have bx := box_below w (.cells #[.int .i64 n, .iface 250 (.int .i64 c)] 290)
 go_enter Tryz.func320, Tryz.ntmps320
 go_wp2
 go_ret
 exact ⟨rfl, bx⟩
theorem isFault_any (n c d : Int) (w : World) : Calls Tryz.prog 268 #[.iface 290 (.agg #[.int .i64 n, .iface 250 (.int .i64 c)]), .iface 250 (.int .i64 d)] w fun e w' => e = .returned (.bool (c == d)) ∧ Below w.heap.size w w' := by
 have h8 := @run_callFunc_extern Tryz.prog 286 _ Extern.ReflectliteType.typeOf Tryz.func286 (by kernel_rfl) (by kernel_rfl) (by kernel_rfl) (by kernel_rfl)
 have h32 := @run_callFunc_extern Tryz.prog 323 _ compF Tryz.func323 (by kernel_rfl) (by kernel_rfl) (by kernel_rfl) (by kernel_rfl)
 have tT := er_typeOf
 have cT := er_comp
 have mR := er_mComp
 have n1 := er_noIsR
 have n2 := er_noIsF
 have n3 := er_noUnR
 have n4 := er_noUnsR
 have n5 := er_hasUnF
 have mU := er_mUn
 have hty : ∀ W, (binOp .eql 214 (.iface 290 (.agg #[.int .i64 n, .iface 250 (.int .i64 c)])) (.iface 250 (.int .i64 d))).run Tryz.prog W = .ok (.bool false) W := fun W => run_eql_iface_types (P := Tryz.prog) 290 250 _ _ Tryz.underlying214 (by decide) W
 have heq : ∀ W, _ := fun W => er_eqR c d W
 generalize hq : (c == d) = q at heq ⊢
 go_enter Tryz.func268, Tryz.ntmps268
 go_wp2_with go_in
 refine wp_loop_rounds 2 ?_
 rw [rounds_succ]
 go_wp2_with (go_at_call 320; refine (unwrap_any _ _ _).mono ?_; rintro e w1 ⟨rfl, bb⟩)
 rw [rounds_succ]
 have HB : Hid (Below w.heap.size w w1) := bb
 clear bb hq
 cases q
 ·go_wp2
  go_ret
  exact ⟨rfl, HB.out⟩
 ·go_wp2
  go_ret
  exact ⟨rfl, HB.out⟩
def Hold (w : World) : Prop := w.cell? ⟨0, 0, none⟩ = some (.iface 299 (.agg #[.pointer (some ⟨1, 214, none⟩)]))
theorem Hold.lt {w : World} (h : Hold w) : 0 < w.heap.size := cell_lt h
theorem Hold.goes {w W : World} (h : Hold w) (hb : Below w.heap.size w W) : Hold W := cell_keep hb h h.lt
abbrev hanV (t : Nat) : Value := .iface 299 (.agg #[.pointer (some ⟨1, t, none⟩)])
abbrev valP (a : Addr) : Value := .agg #[.pointer (some ⟨1, 252, none⟩), .pointer (some a), .int .u64 150]
abbrev valO (a : Addr) : Obj := .cells #[.pointer (some ⟨1, 252, none⟩), .pointer (some a), .int .u64 150] 280
def typeF : Array Value → Sem Value := ReflectliteValue.methodAny (ReflectliteValue.valueError "reflectlite.Value.Type" 0) (fun t _ _ _ => ReflectliteType.toType t)
def kindF : Array Value → Sem Value := ReflectliteType.abiMethod fun t => do pure (.int .u8 (← Rtype.kind t))
def isNilF : Array Value → Sem Value := ReflectliteValue.method (ReflectliteValue.valueError "reflectlite.Value.IsNil" 0) ReflectliteValue.isNil
def elemTF : Array Value → Sem Value := ReflectliteType.method ReflectliteType.elem
def implF : Array Value → Sem Value := ReflectliteType.relation "Implements" ReflectliteType.implements_
def asgnF : Array Value → Sem Value := ReflectliteType.relation "AssignableTo" ReflectliteType.assignableTo
def elemVF : Array Value → Sem Value := ReflectliteValue.method (ReflectliteValue.valueError "reflectlite.Value.Elem" 0) ReflectliteValue.elem
def unpF : Array Value → Sem Value := fun args => ReflectliteValue.unpack (args.getD 0 (.tuple #[]))
def setF : Array Value → Sem Value := ReflectliteValue.set
theorem as_unpP (t : Addr) (w : World) : (unpF #[.iface 252 (.pointer (some t))]).run Tryz.prog w = .ok (valP ⟨w.heap.size, 0, none⟩) (w.alloc (.cells #[.pointer (some t)] 252)) := by kernel_rfl
theorem as_type (a : Addr) (w : World) : (typeF #[valP a]).run Tryz.prog w = .ok (hanV 252) w := by kernel_rfl
theorem as_mKind (h : Value) (w : World) : (Go.method 447 299 (.agg #[h]) "Kind").run Tryz.prog w = .ok (308, h) w := by kernel_rfl
theorem as_kindP (w : World) : (kindF #[.pointer (some ⟨1, 252, none⟩)]).run Tryz.prog w = .ok (.int .u8 22) w := by kernel_rfl
theorem as_kindE (w : World) : (kindF #[.pointer (some ⟨1, 250, none⟩)]).run Tryz.prog w = .ok (.int .u8 6) w := by kernel_rfl
theorem mt1 {m : Array Value → Sort _} (v : Value) (h1 : ∀ v, m #[v]) (h2 : ∀ a, m a) : ReflectliteValue.method.match_2 m #[v] h1 h2 = h1 v := rfl
theorem mt2 {m : Array Value → Sort _} (v x : Value) (h1 : ∀ v x, m #[v, x]) (h2 : ∀ a, m a) : ReflectliteValue.set.match_3 m #[v, x] h1 h2 = h1 v x := rfl
theorem as_partsP (a : Addr) (w : World) : (ReflectliteValue.parts (valP a)).run Tryz.prog w = .ok (some (252, a, 150)) w := by kernel_rfl
theorem as_isNil (a p : Addr) (W : World) (ha : W.cell? a = some (.pointer (some p))) : (isNilF #[valP a]).run Tryz.prog W = .ok (.bool false) W := by
 unfold isNilF ReflectliteValue.method
 rw [mt1]
 simp only [Sem.run_bind, as_partsP, Result.andThen]
 simp [ReflectliteValue.isNil, loadVar, isAgg, underlying, Tryz.underlying252, ha, Result.andThen]
theorem as_mElem (h : Value) (w : World) : (Go.method 447 299 (.agg #[h]) "Elem").run Tryz.prog w = .ok (324, .agg #[h]) w := by kernel_rfl
theorem as_mImpl (h : Value) (w : World) : (Go.method 447 299 (.agg #[h]) "Implements").run Tryz.prog w = .ok (325, .agg #[h]) w := by kernel_rfl
theorem as_mAsgn (h : Value) (w : World) : (Go.method 447 299 (.agg #[h]) "AssignableTo").run Tryz.prog w = .ok (322, .agg #[h]) w := by kernel_rfl
theorem as_elemT (w : World) : (elemTF #[.agg #[.pointer (some ⟨1, 252, none⟩)]]).run Tryz.prog w = .ok (hanV 250) w := by kernel_rfl
theorem as_impl (w : World) : (implF #[.agg #[.pointer (some ⟨1, 250, none⟩)], hanV 214]).run Tryz.prog w = .ok (.bool true) w := by kernel_rfl
theorem as_asgnR (w : World) : (asgnF #[.agg #[.pointer (some ⟨1, 250, none⟩)], hanV 250]).run Tryz.prog w = .ok (.bool true) w := by kernel_rfl
theorem as_asgnF (w : World) : (asgnF #[.agg #[.pointer (some ⟨1, 290, none⟩)], hanV 250]).run Tryz.prog w = .ok (.bool false) w := by kernel_rfl
theorem as_unpE (c : Int) (w : World) : (unpF #[.iface 250 (.int .i64 c)]).run Tryz.prog w = .ok (.agg #[.pointer (some ⟨1, 250, none⟩), .pointer (some ⟨w.heap.size, 0, none⟩), .int .u64 134]) (w.alloc (.cells #[.int .i64 c] 250)) := by kernel_rfl
theorem as_elemOf (w : World) : (Rtype.elem? 252).run Tryz.prog w = .ok (some 250) w := by kernel_rfl
theorem as_mkE (p : Addr) (w : World) : (ReflectliteValue.mk 250 p ReflectliteValue.flagAddr).run Tryz.prog w = .ok (.agg #[.pointer (some ⟨1, 250, none⟩), .pointer (some p), .int .u64 390]) w := by kernel_rfl
theorem as_elemV (a p : Addr) (W : World) (ha : W.cell? a = some (.pointer (some p))) : (elemVF #[valP a]).run Tryz.prog W = .ok (.agg #[.pointer (some ⟨1, 250, none⟩), .pointer (some p), .int .u64 390]) W := by
 unfold elemVF ReflectliteValue.method
 rw [mt1]
 simp only [Sem.run_bind, as_partsP, Result.andThen]
 simp [ReflectliteValue.elem, loadVar, isAgg, underlying, Tryz.underlying252, ha, Result.andThen, as_elemOf, as_mkE]
theorem as_partsEa (a : Addr) (w : World) : (ReflectliteValue.parts (.agg #[.pointer (some ⟨1, 250, none⟩), .pointer (some a), .int .u64 390])).run Tryz.prog w = .ok (some (250, a, 390)) w := by kernel_rfl
theorem as_partsE (a : Addr) (w : World) : (ReflectliteValue.parts (.agg #[.pointer (some ⟨1, 250, none⟩), .pointer (some a), .int .u64 134])).run Tryz.prog w = .ok (some (250, a, 134)) w := by kernel_rfl
theorem as_direct (w : World) : (Rtype.directlyAssignable 250 250).run Tryz.prog w = .ok true w := by kernel_rfl
theorem as_set (ta b : Addr) (c : Int) (old : Value) (W : World) (hb : W.cell? b = some (.int .i64 c)) (ht : W.cell? ta = some old) (hf : W.frozen? ta = false) :
    (setF #[.agg #[.pointer (some ⟨1, 250, none⟩), .pointer (some ta), .int .u64 390], .agg #[.pointer (some ⟨1, 250, none⟩), .pointer (some b), .int .u64 134]]).run Tryz.prog W = .ok (.tuple #[]) (W.setCell ta (.int .i64 c)) := by
 unfold setF ReflectliteValue.set
 rw [mt2]
 simp only [Sem.run_bind, as_partsEa, as_partsE, Result.andThen]
 simp [ReflectliteValue.flagAddr, loadVar, isAgg, underlying, Tryz.underlying250, hb, Result.andThen, as_direct, storeVar, Value.cells, storeCells, Addr.add]
 rw [run_store Tryz.prog W ta _ _ (by rfl)]
 simp [ht, hf]
theorem as_noAsF (v : Value) (xT : TypeId) (w : World) : (Instr.typeAssert (.iface 290 v) xT 304 true).run Tryz.prog w = .ok (.tuple #[.nilIface, .bool false]) w := run_typeAssert_lacksB Tryz.underlying304 (by kernel_rfl) (by kernel_rfl) v xT w
open Go.ChangeShapes Go.WideShapes Go.RowKit
abbrev holdL : List (String × DataW Unit) := [("errors.errorType", Rows.laid_errors_errorType)]
theorem gEt : Tryz.prog.globalNamed "errors.errorType" = some 0 := by kernel_rfl
theorem gRt : (Tryz.prog.cutTypes.find? (·.1 == "internal/reflectlite.rtype")).map (·.2) = some 299 := by kernel_rfl
theorem gRow : ((List.range 347).filter fun t => Tryz.prog.rowNamed t [101, 114, 114, 111, 114]) = [214] := by kernel_rfl
theorem gSize : Tryz.prog.types.size = 347 := by kernel_rfl
theorem hold_laid {W : World} (h : laidMetH Tryz.prog holdL W) : Hold W := by
 have h' : laidMet Tryz.prog [] W ∧ handlesMet Tryz.prog holdL W := h
 obtain ⟨name, u, ty, e1, e2, e3, e4, e5⟩ := h'.2 _ (List.mem_singleton.2 rfl)
 have en : name = [101, 114, 114, 111, 114] := (Option.some.inj e1).symm
 subst en
 obtain rfl := Option.some.inj (gRt.symm.trans e2)
 have hm : ty ∈ (List.range 347).filter fun t => Tryz.prog.rowNamed t [101, 114, 114, 111, 114] := List.mem_filter.2 ⟨List.mem_range.2 (by rw [← gSize]; exact e3), e4⟩
 rw [gRow] at hm
 obtain rfl := List.mem_singleton.1 hm
 have hh : typeHandle Tryz.prog 214 = .pointer (some ⟨1, 214, none⟩) := by kernel_rfl
 rw [hh] at e5
 unfold Hold
 simpa using World.var?_cell gEt e5 0
noncomputable def laidWorld (os : Os) : World :=
 { World.holding Tryz.prog os ⟨#[], #[], []⟩ with heap := (World.holding Tryz.prog os ⟨#[], #[], []⟩).heap.modify 0 fun
     | .cells _ t frozen => .cells #[.iface 299 (.agg #[.pointer (some ⟨1, 214, none⟩)])] t frozen
     | o => o }
theorem laid_met (os : Os) (args : Array Value) : laidMetH Tryz.prog holdL ((laidWorld os).forCall (fun _ _ => 0) ⟨#[], args, []⟩).memory :=
 laidMetH_of_parts (laidMet_nil _ _) (by kernel_rfl)
theorem ex_typeOf (args : Array Value) (w : World) : (callFunc 286 args).run Tryz.prog w = ((Extern.ReflectliteType.typeOf args).run Tryz.prog w).andThen fun v w' => .ok (.value v) w' := @run_callFunc_extern Tryz.prog 286 _ Extern.ReflectliteType.typeOf Tryz.func286 (by kernel_rfl) (by kernel_rfl) (by kernel_rfl) (by kernel_rfl) args w
theorem ex_unp (args : Array Value) (w : World) : (callFunc 264 args).run Tryz.prog w = ((unpF args).run Tryz.prog w).andThen fun v w' => .ok (.value v) w' := @run_callFunc_extern Tryz.prog 264 _ unpF Tryz.func264 (by kernel_rfl) (by kernel_rfl) (by kernel_rfl) (by kernel_rfl) args w
theorem ex_type (args : Array Value) (w : World) : (callFunc 265 args).run Tryz.prog w = ((typeF args).run Tryz.prog w).andThen fun v w' => .ok (.value v) w' := @run_callFunc_extern Tryz.prog 265 _ typeF Tryz.func265 (by kernel_rfl) (by kernel_rfl) (by kernel_rfl) (by kernel_rfl) args w
theorem ex_isNil (args : Array Value) (w : World) : (callFunc 266 args).run Tryz.prog w = ((isNilF args).run Tryz.prog w).andThen fun v w' => .ok (.value v) w' := @run_callFunc_extern Tryz.prog 266 _ isNilF Tryz.func266 (by kernel_rfl) (by kernel_rfl) (by kernel_rfl) (by kernel_rfl) args w
theorem ex_kind (args : Array Value) (w : World) : (callFunc 308 args).run Tryz.prog w = ((kindF args).run Tryz.prog w).andThen fun v w' => .ok (.value v) w' := @run_callFunc_extern Tryz.prog 308 _ kindF Tryz.func308 (by kernel_rfl) (by kernel_rfl) (by kernel_rfl) (by kernel_rfl) args w
theorem ex_elemT (args : Array Value) (w : World) : (callFunc 324 args).run Tryz.prog w = ((elemTF args).run Tryz.prog w).andThen fun v w' => .ok (.value v) w' := @run_callFunc_extern Tryz.prog 324 _ elemTF Tryz.func324 (by kernel_rfl) (by kernel_rfl) (by kernel_rfl) (by kernel_rfl) args w
theorem ex_impl (args : Array Value) (w : World) : (callFunc 325 args).run Tryz.prog w = ((implF args).run Tryz.prog w).andThen fun v w' => .ok (.value v) w' := @run_callFunc_extern Tryz.prog 325 _ implF Tryz.func325 (by kernel_rfl) (by kernel_rfl) (by kernel_rfl) (by kernel_rfl) args w
theorem ex_asgn (args : Array Value) (w : World) : (callFunc 322 args).run Tryz.prog w = ((asgnF args).run Tryz.prog w).andThen fun v w' => .ok (.value v) w' := @run_callFunc_extern Tryz.prog 322 _ asgnF Tryz.func322 (by kernel_rfl) (by kernel_rfl) (by kernel_rfl) (by kernel_rfl) args w
theorem ex_elemV (args : Array Value) (w : World) : (callFunc 287 args).run Tryz.prog w = ((elemVF args).run Tryz.prog w).andThen fun v w' => .ok (.value v) w' := @run_callFunc_extern Tryz.prog 287 _ elemVF Tryz.func287 (by kernel_rfl) (by kernel_rfl) (by kernel_rfl) (by kernel_rfl) args w
theorem ex_set (args : Array Value) (w : World) : (callFunc 288 args).run Tryz.prog w = ((setF args).run Tryz.prog w).andThen fun v w' => .ok (.value v) w' := @run_callFunc_extern Tryz.prog 288 _ setF Tryz.func288 (by kernel_rfl) (by kernel_rfl) (by kernel_rfl) (by kernel_rfl) args w
theorem froz_keep {w w' : World} {D b o : Nat} (hb : Below D w w') (h : w.frozen? ⟨b, o, none⟩ = false) (hl : b < D) : w'.frozen? ⟨b, o, none⟩ = false := by
 have := hb.block b hl
 simp only [World.frozen?, this] at h ⊢
 exact h
theorem asR_any (c : Int) (ab ao tb tq : Nat) (old : Value) (w : World) (ha : w.cell? ⟨ab, ao, none⟩ = some (.pointer (some ⟨tb, tq, none⟩))) (ht : w.cell? ⟨tb, tq, none⟩ = some old) (hf : w.frozen? ⟨tb, tq, none⟩ = false) :
    Calls Tryz.prog 267 #[.iface 250 (.int .i64 c), .iface 252 (.pointer (some ⟨tb, tq, none⟩)), valP ⟨ab, ao, none⟩, hanV 250] w fun e w' => e = .returned (.bool true) ∧ ∃ W, Below w.heap.size w W ∧ w' = W.setCell ⟨tb, tq, none⟩ (.int .i64 c) := by
 have B1 := box_below w (valO ⟨ab, ao, none⟩)
 have A1 := cell_keep B1 ha (cell_lt ha)
 have B2 := below_step B1 (box_below (w.alloc (valO ⟨ab, ao, none⟩)) (.cells #[.int .i64 c] 250))
 have e1 := ex_typeOf
 have e2 := ex_asgn
 have e3 := ex_elemV
 have e4 := ex_unp
 have e5 := ex_set
 have t1 := er_typeOf
 have m1 := as_mAsgn
 have m2 := as_asgnR
 have m3 := as_elemV ⟨ab, ao, none⟩ ⟨tb, tq, none⟩ (w.alloc (valO ⟨ab, ao, none⟩)) A1
 have m4 := as_unpE c (w.alloc (valO ⟨ab, ao, none⟩))
 have m5 := as_set ⟨tb, tq, none⟩ ⟨w.heap.size + 1, 0, none⟩ c old ((w.alloc (valO ⟨ab, ao, none⟩)).alloc (.cells #[.int .i64 c] 250)) (by rw [World.cell?_alloc_at _ _ _ _ (by simp)]; rfl) (cell_keep B2 ht (cell_lt ht)) (froz_keep B2 hf (cell_lt ht))
 go_enter Tryz.func267, Tryz.ntmps267
 go_wp2
 refine wp_loop_rounds 1 ?_
 rw [rounds_succ]
 go_wp2
 go_ret
 exact ⟨rfl, _, B2, rfl⟩
theorem asF_any (n c : Int) (ab ao tb tq : Nat) (old : Value) (w : World) (ha : w.cell? ⟨ab, ao, none⟩ = some (.pointer (some ⟨tb, tq, none⟩))) (ht : w.cell? ⟨tb, tq, none⟩ = some old) (hf : w.frozen? ⟨tb, tq, none⟩ = false) :
    Calls Tryz.prog 267 #[.iface 290 (.agg #[.int .i64 n, .iface 250 (.int .i64 c)]), .iface 252 (.pointer (some ⟨tb, tq, none⟩)), valP ⟨ab, ao, none⟩, hanV 250] w fun e w' => e = .returned (.bool true) ∧ ∃ W, Below w.heap.size w W ∧ w' = W.setCell ⟨tb, tq, none⟩ (.int .i64 c) := by
 have B1 := box_below w (valO ⟨ab, ao, none⟩)
 have A1 := heap_at w (valO ⟨ab, ao, none⟩)
 have e1 := ex_typeOf
 have e2 := ex_asgn
 have e3 := ex_elemV
 have e4 := ex_unp
 have e5 := ex_set
 have t1 := er_typeOf
 have t2 := er_typeOfF
 have m1 := as_mAsgn
 have m2 := as_asgnR
 have m6 := as_asgnF
 have n1 := as_noAsF
 have n5 := er_hasUnF
 have mU := er_mUn
 go_enter Tryz.func267, Tryz.ntmps267
 go_wp2
 refine wp_loop_rounds 2 ?_
 rw [rounds_succ]
 generalize w.alloc (valO ⟨ab, ao, none⟩) = w0 at A1 B1 ⊢
 have HB1 : Hid (Below w.heap.size w w0) := B1
 have hsz : w.heap.size < w0.heap.size := (Array.getElem?_eq_some_iff.1 A1).1
 clear B1
 go_wp2_with (go_at_call 320; refine (unwrap_any _ _ _).mono ?_; rintro e w1 ⟨rfl, bb⟩)
 rw [rounds_succ]
 have B2 := below_step HB1.out bb
 have c0 : w1.cell? ⟨w.heap.size, 0, none⟩ = some (.pointer (some ⟨1, 252, none⟩)) := cell_keep bb (by simp [World.cell?, A1]) hsz
 have c1 : w1.cell? ⟨w.heap.size, 1, none⟩ = some (.pointer (some ⟨ab, ao, none⟩)) := cell_keep bb (by simp [World.cell?, A1]) hsz
 have c2 : w1.cell? ⟨w.heap.size, 2, none⟩ = some (.int .u64 150) := cell_keep bb (by simp [World.cell?, A1]) hsz
 have a1 := cell_keep B2 ha (cell_lt ha)
 have t1' := cell_keep B2 ht (cell_lt ht)
 have f1 := froz_keep B2 hf (cell_lt ht)
 have B3 := box_below w1 (.cells #[.int .i64 c] 250)
 have m3 := as_elemV ⟨ab, ao, none⟩ ⟨tb, tq, none⟩ w1 a1
 have m4 := as_unpE c w1
 have m5 := as_set ⟨tb, tq, none⟩ ⟨w1.heap.size, 0, none⟩ c old (w1.alloc (.cells #[.int .i64 c] 250)) (by rw [World.cell?_alloc_at _ _ _ _ (by simp)]; rfl) (cell_keep B3 t1' (cell_lt t1')) (froz_keep B3 f1 (cell_lt t1'))
 have HE : Hid (Below w.heap.size w (w1.alloc (.cells #[.int .i64 c] 250))) := below_step B2 B3
 clear B2 B3 bb ha ht hf a1 t1' f1 A1 HB1 hsz
 go_wp2
 go_ret
 exact ⟨rfl, _, HE.out, rfl⟩
def ErrV (v : Value) (c : Int) : Prop := v = refV c ∨ ∃ n : Int, v = fltV n c
theorem as_any (v : Value) (c : Int) (hv : ErrV v c) (ab ao tb tq : Nat) (old : Value) (w : World) (ha : w.cell? ⟨ab, ao, none⟩ = some (.pointer (some ⟨tb, tq, none⟩))) (ht : w.cell? ⟨tb, tq, none⟩ = some old) (hf : w.frozen? ⟨tb, tq, none⟩ = false) :
    Calls Tryz.prog 267 #[v, .iface 252 (.pointer (some ⟨tb, tq, none⟩)), valP ⟨ab, ao, none⟩, hanV 250] w fun e w' => e = .returned (.bool true) ∧ ∃ W, Below w.heap.size w W ∧ w' = W.setCell ⟨tb, tq, none⟩ (.int .i64 c) := by
 rcases hv with rfl | ⟨n, rfl⟩
 ·exact asR_any c ab ao tb tq old w ha ht hf
 ·exact asF_any n c ab ao tb tq old w ha ht hf
theorem asWhole_any (v : Value) (c : Int) (hv : ErrV v c) (tb tq : Nat) (old : Value) (w : World) (hh : Hold w) (ht : w.cell? ⟨tb, tq, none⟩ = some old) (hf : w.frozen? ⟨tb, tq, none⟩ = false) :
    Calls Tryz.prog 229 #[v, .iface 252 (.pointer (some ⟨tb, tq, none⟩))] w fun e w' => e = .returned (.bool true) ∧ ∃ W, Below w.heap.size w W ∧ w' = W.setCell ⟨tb, tq, none⟩ (.int .i64 c) := by
 have B1 := box_below w (.cells #[.pointer (some ⟨tb, tq, none⟩)] 252)
 have B2 := below_step B1 (box_below (w.alloc (.cells #[.pointer (some ⟨tb, tq, none⟩)] 252)) (valO ⟨w.heap.size, 0, none⟩))
 have G2 : ((w.alloc (.cells #[.pointer (some ⟨tb, tq, none⟩)] 252)).alloc (valO ⟨w.heap.size, 0, none⟩)).cell? ⟨0, 0, none⟩ = some (hanV 214) := hh.goes B2
 have P2 : ((w.alloc (.cells #[.pointer (some ⟨tb, tq, none⟩)] 252)).alloc (valO ⟨w.heap.size, 0, none⟩)).cell? ⟨w.heap.size, 0, none⟩ = some (.pointer (some ⟨tb, tq, none⟩)) := by
  rw [World.cell?_alloc_lt _ _ ⟨w.heap.size, 0, none⟩ (by simp)]; simp
 have HC : Hid (Calls Tryz.prog 267 #[v, .iface 252 (.pointer (some ⟨tb, tq, none⟩)), valP ⟨w.heap.size, 0, none⟩, hanV 250] ((w.alloc (.cells #[.pointer (some ⟨tb, tq, none⟩)] 252)).alloc (valO ⟨w.heap.size, 0, none⟩)) fun e w' => e = .returned (.bool true) ∧ ∃ W, Below w.heap.size w W ∧ w' = W.setCell ⟨tb, tq, none⟩ (.int .i64 c)) :=
  (as_any v c hv w.heap.size 0 tb tq old _ P2 (cell_keep B2 ht (cell_lt ht)) (froz_keep B2 hf (cell_lt ht))).mono fun e w' ⟨h1, W, h2, h3⟩ => ⟨h1, W, below_step B2 h2, h3⟩
 have m8 := as_isNil ⟨w.heap.size, 0, none⟩ ⟨tb, tq, none⟩ _ P2
 obtain ⟨T, x, rfl⟩ : ∃ T x, v = .iface T x := by
  rcases hv with rfl | ⟨n, rfl⟩
  ·exact ⟨_, _, rfl⟩
  ·exact ⟨_, _, rfl⟩
 clear hv hh ht hf B1 B2
 have e1 := ex_unp
 have e2 := ex_type
 have e3 := ex_kind
 have e4 := ex_isNil
 have e5 := ex_elemT
 have e6 := ex_impl
 have m1 := as_unpP
 have m2 := as_type
 have m3 := as_mKind
 have m4 := as_kindP
 have m5 := as_kindE
 have m6 := as_mElem
 have m7 := as_elemT
 have m9 := as_mImpl
 have m10 := as_impl
 go_enter Tryz.func229, Tryz.ntmps229
 go_wp2_with (go_at_call 267; refine HC.out.mono ?_; rintro e w' ⟨rfl, W, h2, h3⟩)
 go_ret
 exact ⟨rfl, W, h2, rfl⟩
theorem implCodeOf_any (v : Value) (c : Int) (hv : ErrV v c) (w : World) (hh : Hold w) :
    Calls Tryz.prog 179 #[v] w fun e w' => e = .returned (.int .i64 c) ∧ Below w.heap.size w w' := by
 have bx := box_below w (.cells #[.int .i64 0] 250)
 have HC := asWhole_any v c hv w.heap.size 0 (.int .i64 0) (w.alloc (.cells #[.int .i64 0] 250)) (hh.goes bx) (by simp) (by simp)
 clear hh hv
 go_enter Tryz.func179, Tryz.ntmps179
 go_wp2_with fail
 refine HC.mono ?_
 rintro e w' ⟨rfl, W, h2, rfl⟩
 have A1 := heap_at w (.cells #[.int .i64 0] 250)
 have A2 : W.heap[w.heap.size]? = some (.cells #[.int .i64 0] 250) := (h2.block _ (Array.getElem?_eq_some_iff.1 A1).1).trans A1
 have hc : (W.setCell ⟨w.heap.size, 0, none⟩ (.int .i64 c)).cell? ⟨w.heap.size, 0, none⟩ = some (.int .i64 c) := by
  have := heap_setCell_same W w.heap.size 0 _ _ (.int .i64 c) A2
  simp [World.cell?, this]
 have HB : Hid (Below w.heap.size w (W.setCell ⟨w.heap.size, 0, none⟩ (.int .i64 c))) := below_setC (below_step bx h2) (Nat.le_refl _)
 clear A1 A2
 clear HC h2 bx
 generalize W.setCell ⟨w.heap.size, 0, none⟩ (.int .i64 c) = V at hc HB ⊢
 go_wp2
 go_ret
 exact ⟨rfl, HB.out⟩
theorem implCodeOf_nil (w : World) : Calls Tryz.prog 179 #[.nilIface] w fun e w' => e = .returned (.int .i64 0) ∧ Below w.heap.size w w' := by
 have bx := box_below w (.cells #[.int .i64 0] 250)
 go_enter Tryz.func179, Tryz.ntmps179
 go_wp2_with go_in
 go_ret
 exact ⟨rfl, bx⟩
end Go.Proofs.YthnfkacboijneaaGreatDoor
