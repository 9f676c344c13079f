import Derived.Test.YthnfkacboijneaaGreatDoorChecked
import Derived.Test.YthnfkacboijneaaGreatDoorP03Bits
import Derived.WalkKit
import Derived.LaidEql
import Derived.Stop.Asserts
import Derived.RowKitTokens
namespace Go.Proofs.YthnfkacboijneaaGreatDoor
open Go.RowKit Go.Extern.Stop Go.Stop Go.Extern
set_option linter.unusedVariables false
abbrev refV (c : Int) : Value := .iface 250 (.int .i64 c)
abbrev fltV (n c : Int) : Value := .iface 290 (.agg #[.int .i64 n, .iface 250 (.int .i64 c)])
theorem er_typeOf (v : Value) (w : World) : (Extern.ReflectliteType.typeOf #[.iface 250 v]).run Tryz.prog w = .ok (.iface 299 (.agg #[.pointer (some ⟨1, 250, none⟩)])) w := by kernel_rfl
theorem er_typeOfF (v : Value) (w : World) : (Extern.ReflectliteType.typeOf #[.iface 290 v]).run Tryz.prog w = .ok (.iface 299 (.agg #[.pointer (some ⟨1, 290, none⟩)])) w := by kernel_rfl
def compF : Array Value → Sem Value := Extern.ReflectliteType.method fun t => do Extern.Rtype.noPackHeld "Comparable" t; pure (.bool (← typeInfo t).comparable)
theorem er_comp (w : World) : (compF #[.agg #[.pointer (some ⟨1, 250, none⟩)]]).run Tryz.prog w = .ok (.bool true) w := by kernel_rfl
theorem er_mComp (v : Value) (w : World) : (Go.method 447 299 v "Comparable").run Tryz.prog w = .ok (323, v) w := by kernel_rfl
theorem er_isComp : (Tryz.prog.info? 250).map (·.comparable) = some true := by kernel_rfl
theorem er_noIsR (v : Value) (xT : TypeId) (w : World) : (Instr.typeAssert (.iface 250 v) xT 314 true).run Tryz.prog w = .ok (.tuple #[.nilIface, .bool false]) w := run_typeAssert_lacksB Tryz.underlying314 (by kernel_rfl) (by kernel_rfl) v xT w
theorem er_noIsF (v : Value) (xT : TypeId) (w : World) : (Instr.typeAssert (.iface 290 v) xT 314 true).run Tryz.prog w = .ok (.tuple #[.nilIface, .bool false]) w := run_typeAssert_lacksB Tryz.underlying314 (by kernel_rfl) (by kernel_rfl) v xT w
theorem er_noUnR (v : Value) (xT : TypeId) (w : World) : (Instr.typeAssert (.iface 250 v) xT 307 true).run Tryz.prog w = .ok (.tuple #[.nilIface, .bool false]) w := run_typeAssert_lacksB Tryz.underlying307 (by kernel_rfl) (by kernel_rfl) v xT w
theorem er_noUnsR (v : Value) (xT : TypeId) (w : World) : (Instr.typeAssert (.iface 250 v) xT 309 true).run Tryz.prog w = .ok (.tuple #[.nilIface, .bool false]) w := run_typeAssert_lacksB Tryz.underlying309 (by kernel_rfl) (by kernel_rfl) v xT w
theorem er_hasUnF (v : Value) (xT : TypeId) (w : World) : (Instr.typeAssert (.iface 290 v) xT 307 true).run Tryz.prog w = .ok (.tuple #[.iface 290 v, .bool true]) w := run_typeAssert_hasB Tryz.underlying307 (by kernel_rfl) v xT w
theorem er_mUn (v : Value) (w : World) : (Go.method 447 290 v "Unwrap").run Tryz.prog w = .ok (320, v) w := by kernel_rfl
theorem er_eqR (a b : Int) (w : World) : (binOp .eql 214 (.iface 250 (.int .i64 a)) (.iface 250 (.int .i64 b))).run Tryz.prog w = .ok (.bool (a == b)) w := by
 obtain ⟨i, hi, hcmp⟩ := Option.map_eq_some_iff.1 er_isComp
 have h : ∀ d : Nat, (Op.equalIn (d + 2) 214 (.iface 250 (.int .i64 a)) (.iface 250 (.int .i64 b))).run Tryz.prog w = .ok (a == b) w := fun d => by
  simp [Op.equalIn, run_underlying Tryz.underlying214, run_underlying Tryz.underlying250, typeInfo, hi, hcmp]
 simp only [binOp]
 simp [Op.equal, Op.maxDepth, h 9998]
theorem unwrap_any (n c : Int) (w : World) : Calls Tryz.prog 320 #[.agg #[.int .i64 n, .iface 250 (.int .i64 c)]] w fun e w' => e = .returned (.iface 250 (.int .i64 c)) ∧ Below w.heap.size w w' := by
 have bx := box_below w (.cells #[.int .i64 n, .iface 250 (.int .i64 c)] 290)
 go_enter Tryz.func320, Tryz.ntmps320
 go_wp2
 go_ret
 exact ⟨rfl, bx⟩
set_option maxHeartbeats 4000000 in
theorem isFault_any (n c d : Int) (w : World) : Calls Tryz.prog 268 #[.iface 290 (.agg #[.int .i64 n, .iface 250 (.int .i64 c)]), .iface 250 (.int .i64 d)] w fun e w' => e = .returned (.bool (c == d)) ∧ Below w.heap.size w w' := by
 have h8 := @run_callFunc_extern Tryz.prog 286 _ Extern.ReflectliteType.typeOf Tryz.func286 (by kernel_rfl) (by kernel_rfl) (by kernel_rfl) (by kernel_rfl)
 have h32 := @run_callFunc_extern Tryz.prog 323 _ compF Tryz.func323 (by kernel_rfl) (by kernel_rfl) (by kernel_rfl) (by kernel_rfl)
 have tT := er_typeOf
 have cT := er_comp
 have mR := er_mComp
 have n1 := er_noIsR
 have n2 := er_noIsF
 have n3 := er_noUnR
 have n4 := er_noUnsR
 have n5 := er_hasUnF
 have mU := er_mUn
 have hty : ∀ W, (binOp .eql 214 (.iface 290 (.agg #[.int .i64 n, .iface 250 (.int .i64 c)])) (.iface 250 (.int .i64 d))).run Tryz.prog W = .ok (.bool false) W := fun W => run_eql_iface_types (P := Tryz.prog) 290 250 _ _ Tryz.underlying214 (by decide) W
 have heq : ∀ W, _ := fun W => er_eqR c d W
 generalize hq : (c == d) = q at heq ⊢
 go_enter Tryz.func268, Tryz.ntmps268
 go_wp2_with go_in
 refine wp_loop_rounds 2 ?_
 rw [rounds_succ]
 go_wp2_with (go_at_call 320; refine (unwrap_any _ _ _).mono ?_; rintro e w1 ⟨rfl, bb⟩)
 rw [rounds_succ]
 have HB : Hid (Below w.heap.size w w1) := bb
 clear bb hq
 cases q
 ·go_wp2
  go_ret
  exact ⟨rfl, HB.out⟩
 ·go_wp2
  go_ret
  exact ⟨rfl, HB.out⟩
def Hold (w : World) : Prop := w.cell? ⟨0, 0, none⟩ = some (.iface 299 (.agg #[.pointer (some ⟨1, 214, none⟩)]))
theorem Hold.lt {w : World} (h : Hold w) : 0 < w.heap.size := cell_lt h
theorem Hold.to {w W : World} (h : Hold w) (hb : Below w.heap.size w W) : Hold W := cell_keep hb h h.lt
abbrev hanV (t : Nat) : Value := .iface 299 (.agg #[.pointer (some ⟨1, t, none⟩)])
abbrev valP (a : Addr) : Value := .agg #[.pointer (some ⟨1, 252, none⟩), .pointer (some a), .int .u64 150]
abbrev valO (a : Addr) : Obj := .cells #[.pointer (some ⟨1, 252, none⟩), .pointer (some a), .int .u64 150] 280
def typeF : Array Value → Sem Value := ReflectliteValue.methodAny (ReflectliteValue.valueError "reflectlite.Value.Type" 0) (fun t _ _ _ => ReflectliteType.toType t)
def kindF : Array Value → Sem Value := ReflectliteType.abiMethod fun t => do pure (.int .u8 (← Rtype.kind t))
def isNilF : Array Value → Sem Value := ReflectliteValue.method (ReflectliteValue.valueError "reflectlite.Value.IsNil" 0) ReflectliteValue.isNil
def elemTF : Array Value → Sem Value := ReflectliteType.method ReflectliteType.elem
def implF : Array Value → Sem Value := ReflectliteType.relation "Implements" ReflectliteType.implements_
def asgnF : Array Value → Sem Value := ReflectliteType.relation "AssignableTo" ReflectliteType.assignableTo
def elemVF : Array Value → Sem Value := ReflectliteValue.method (ReflectliteValue.valueError "reflectlite.Value.Elem" 0) ReflectliteValue.elem
def unpF : Array Value → Sem Value := fun args => ReflectliteValue.unpack (args.getD 0 (.tuple #[]))
def setF : Array Value → Sem Value := ReflectliteValue.set
theorem as_unpP (t : Addr) (w : World) : (unpF #[.iface 252 (.pointer (some t))]).run Tryz.prog w = .ok (valP ⟨w.heap.size, 0, none⟩) (w.alloc (.cells #[.pointer (some t)] 252)) := by kernel_rfl
theorem as_type (a : Addr) (w : World) : (typeF #[valP a]).run Tryz.prog w = .ok (hanV 252) w := by kernel_rfl
theorem as_mKind (h : Value) (w : World) : (Go.method 447 299 (.agg #[h]) "Kind").run Tryz.prog w = .ok (308, h) w := by kernel_rfl
theorem as_kindP (w : World) : (kindF #[.pointer (some ⟨1, 252, none⟩)]).run Tryz.prog w = .ok (.int .u8 22) w := by kernel_rfl
theorem as_kindE (w : World) : (kindF #[.pointer (some ⟨1, 250, none⟩)]).run Tryz.prog w = .ok (.int .u8 6) w := by kernel_rfl
theorem mt1 {m : Array Value → Sort _} (v : Value) (h1 : ∀ v, m #[v]) (h2 : ∀ a, m a) : ReflectliteValue.method.match_2 m #[v] h1 h2 = h1 v := rfl
theorem mt2 {m : Array Value → Sort _} (v x : Value) (h1 : ∀ v x, m #[v, x]) (h2 : ∀ a, m a) : ReflectliteValue.set.match_3 m #[v, x] h1 h2 = h1 v x := rfl
theorem as_partsP (a : Addr) (w : World) : (ReflectliteValue.parts (valP a)).run Tryz.prog w = .ok (some (252, a, 150)) w := by kernel_rfl
theorem as_isNil (a p : Addr) (W : World) (ha : W.cell? a = some (.pointer (some p))) : (isNilF #[valP a]).run Tryz.prog W = .ok (.bool false) W := by
 unfold isNilF ReflectliteValue.method
 rw [mt1]
 simp only [Sem.run_bind, as_partsP, Result.andThen]
 simp [ReflectliteValue.isNil, loadVar, isAgg, underlying, Tryz.underlying252, ha, Result.andThen]
theorem as_mElem (h : Value) (w : World) : (Go.method 447 299 (.agg #[h]) "Elem").run Tryz.prog w = .ok (324, .agg #[h]) w := by kernel_rfl
theorem as_mImpl (h : Value) (w : World) : (Go.method 447 299 (.agg #[h]) "Implements").run Tryz.prog w = .ok (325, .agg #[h]) w := by kernel_rfl
theorem as_mAsgn (h : Value) (w : World) : (Go.method 447 299 (.agg #[h]) "AssignableTo").run Tryz.prog w = .ok (322, .agg #[h]) w := by kernel_rfl
theorem as_elemT (w : World) : (elemTF #[.agg #[.pointer (some ⟨1, 252, none⟩)]]).run Tryz.prog w = .ok (hanV 250) w := by kernel_rfl
theorem as_impl (w : World) : (implF #[.agg #[.pointer (some ⟨1, 250, none⟩)], hanV 214]).run Tryz.prog w = .ok (.bool true) w := by kernel_rfl
theorem as_asgnR (w : World) : (asgnF #[.agg #[.pointer (some ⟨1, 250, none⟩)], hanV 250]).run Tryz.prog w = .ok (.bool true) w := by kernel_rfl
theorem as_asgnF (w : World) : (asgnF #[.agg #[.pointer (some ⟨1, 290, none⟩)], hanV 250]).run Tryz.prog w = .ok (.bool false) w := by kernel_rfl
theorem as_unpE (c : Int) (w : World) : (unpF #[.iface 250 (.int .i64 c)]).run Tryz.prog w = .ok (.agg #[.pointer (some ⟨1, 250, none⟩), .pointer (some ⟨w.heap.size, 0, none⟩), .int .u64 134]) (w.alloc (.cells #[.int .i64 c] 250)) := by kernel_rfl
theorem as_elemOf (w : World) : (Rtype.elem? 252).run Tryz.prog w = .ok (some 250) w := by kernel_rfl
theorem as_mkE (p : Addr) (w : World) : (ReflectliteValue.mk 250 p ReflectliteValue.flagAddr).run Tryz.prog w = .ok (.agg #[.pointer (some ⟨1, 250, none⟩), .pointer (some p), .int .u64 390]) w := by kernel_rfl
theorem as_elemV (a p : Addr) (W : World) (ha : W.cell? a = some (.pointer (some p))) : (elemVF #[valP a]).run Tryz.prog W = .ok (.agg #[.pointer (some ⟨1, 250, none⟩), .pointer (some p), .int .u64 390]) W := by
 unfold elemVF ReflectliteValue.method
 rw [mt1]
 simp only [Sem.run_bind, as_partsP, Result.andThen]
 simp [ReflectliteValue.elem, loadVar, isAgg, underlying, Tryz.underlying252, ha, Result.andThen, as_elemOf, as_mkE]
theorem as_partsEa (a : Addr) (w : World) : (ReflectliteValue.parts (.agg #[.pointer (some ⟨1, 250, none⟩), .pointer (some a), .int .u64 390])).run Tryz.prog w = .ok (some (250, a, 390)) w := by kernel_rfl
theorem as_partsE (a : Addr) (w : World) : (ReflectliteValue.parts (.agg #[.pointer (some ⟨1, 250, none⟩), .pointer (some a), .int .u64 134])).run Tryz.prog w = .ok (some (250, a, 134)) w := by kernel_rfl
theorem as_direct (w : World) : (Rtype.directlyAssignable 250 250).run Tryz.prog w = .ok true w := by kernel_rfl
theorem as_set (ta b : Addr) (c : Int) (old : Value) (W : World) (hb : W.cell? b = some (.int .i64 c)) (ht : W.cell? ta = some old) (hf : W.frozen? ta = false) :
    (setF #[.agg #[.pointer (some ⟨1, 250, none⟩), .pointer (some ta), .int .u64 390], .agg #[.pointer (some ⟨1, 250, none⟩), .pointer (some b), .int .u64 134]]).run Tryz.prog W = .ok (.tuple #[]) (W.setCell ta (.int .i64 c)) := by
 unfold setF ReflectliteValue.set
 rw [mt2]
 simp only [Sem.run_bind, as_partsEa, as_partsE, Result.andThen]
 simp [ReflectliteValue.flagAddr, loadVar, isAgg, underlying, Tryz.underlying250, hb, Result.andThen, as_direct, storeVar, Value.cells, storeCells, Addr.add]
 rw [run_store Tryz.prog W ta _ _ (by rfl)]
 simp [ht, hf]
theorem as_noAsF (v : Value) (xT : TypeId) (w : World) : (Instr.typeAssert (.iface 290 v) xT 304 true).run Tryz.prog w = .ok (.tuple #[.nilIface, .bool false]) w := run_typeAssert_lacksB Tryz.underlying304 (by kernel_rfl) (by kernel_rfl) v xT w
end Go.Proofs.YthnfkacboijneaaGreatDoor
