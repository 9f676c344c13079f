import Derived.Test.YtdamokokcdcedaaGreatDoorF00Box
import Derived.Test.YtdamokokcdcedaaGreatDoorF03
import Derived.LaidEql
import Derived.Stop.Asserts
import Derived.RowKitTokens
import Derived.Test.YtdamokokcdcedaaGreatDoorCards
import Derived.Test.YtdamokokcdcedaaGreatDoorTie
import Derived.ChangeSame
import Derived.ChangeVars
import Derived.JoinedOf
import Derived.RowKit
import Derived.LaidLaws
import Derived.LaidHandle
import Derived.Stop.Joined
namespace Go.Proofs.YtdamokokcdcedaaGreatDoor
set_option maxHeartbeats 4000000
open Go.RowKit Go.Extern.Stop Go.Stop Go.Extern
set_option linter.unusedVariables false
abbrev refV (c : Int) : Value := .iface 259 (.int .i64 c)
abbrev fltV (n c : Int) : Value := .iface 284 (.agg #[.int .i64 n, .iface 259 (.int .i64 c)])
theorem er_typeOf (v : Value) (w : World) : (Extern.ReflectliteType.typeOf #[.iface 259 v]).run Tryz.prog w = .ok (.iface 295 (.agg #[.pointer (some ⟨2, 259, none⟩)])) w := by kernel_rfl
theorem er_typeOfF (v : Value) (w : World) : (Extern.ReflectliteType.typeOf #[.iface 284 v]).run Tryz.prog w = .ok (.iface 295 (.agg #[.pointer (some ⟨2, 284, none⟩)])) w := by kernel_rfl
def compF : Array Value → Sem Value := Extern.ReflectliteType.method fun t => do Extern.Rtype.noPackHeld "Comparable" t; pure (.bool (← typeInfo t).comparable)
theorem er_comp (w : World) : (compF #[.agg #[.pointer (some ⟨2, 259, none⟩)]]).run Tryz.prog w = .ok (.bool true) w := by kernel_rfl
theorem er_mComp (v : Value) (w : World) : (Go.method 444 295 v "Comparable").run Tryz.prog w = .ok (321, v) w := by kernel_rfl
theorem er_isComp : (Tryz.prog.info? 259).map (·.comparable) = some true := by kernel_rfl
theorem er_noIsR (v : Value) (xT : TypeId) (w : World) : (Instr.typeAssert (.iface 259 v) xT 310 true).run Tryz.prog w = .ok (.tuple #[.nilIface, .bool false]) w := run_typeAssert_lacksB Tryz.underlying310 (by kernel_rfl) (by kernel_rfl) v xT w
theorem er_noIsF (v : Value) (xT : TypeId) (w : World) : (Instr.typeAssert (.iface 284 v) xT 310 true).run Tryz.prog w = .ok (.tuple #[.nilIface, .bool false]) w := run_typeAssert_lacksB Tryz.underlying310 (by kernel_rfl) (by kernel_rfl) v xT w
theorem er_noUnR (v : Value) (xT : TypeId) (w : World) : (Instr.typeAssert (.iface 259 v) xT 303 true).run Tryz.prog w = .ok (.tuple #[.nilIface, .bool false]) w := run_typeAssert_lacksB Tryz.underlying303 (by kernel_rfl) (by kernel_rfl) v xT w
theorem er_noUnsR (v : Value) (xT : TypeId) (w : World) : (Instr.typeAssert (.iface 259 v) xT 305 true).run Tryz.prog w = .ok (.tuple #[.nilIface, .bool false]) w := run_typeAssert_lacksB Tryz.underlying305 (by kernel_rfl) (by kernel_rfl) v xT w
theorem er_hasUnF (v : Value) (xT : TypeId) (w : World) : (Instr.typeAssert (.iface 284 v) xT 303 true).run Tryz.prog w = .ok (.tuple #[.iface 284 v, .bool true]) w := run_typeAssert_hasB Tryz.underlying303 (by kernel_rfl) v xT w
theorem er_mUn (v : Value) (w : World) : (Go.method 444 284 v "Unwrap").run Tryz.prog w = .ok (318, v) w := by kernel_rfl
theorem er_eqR (a b : Int) (w : World) : (binOp .eql 242 (.iface 259 (nI a)) (.iface 259 (nI b))).run Tryz.prog w = .ok (.bool (a == b)) w := by
 obtain ⟨i, f, c⟩ := Option.map_eq_some_iff.1 er_isComp;have h : ∀ d : Nat, (Op.equalIn (d + 2) 242 (.iface 259 (nI a)) (.iface 259 (nI b))).run Tryz.prog w = .ok (a == b) w := fun d => by
  simp [Op.equalIn, run_underlying Tryz.underlying242, run_underlying Tryz.underlying259, typeInfo, f, c]
 simp only [binOp];simp [Op.equal, Op.maxDepth, h 9998]
theorem unwrap_any (n c : Int) (w : World) : Calls Tryz.prog 318 #[.agg #[nI n, .iface 259 (nI c)]] w fun e w' => e = .returned (.iface 259 (nI c)) ∧ Bl w w' := by
 have a := box_below w (.cells #[nI n, .iface 259 (nI c)] 284);go_enter Tryz.func318, Tryz.ntmps318;go_wp2;go_ret
 exact ⟨rfl, a⟩
theorem isFault_any (n c d : Int) (w : World) : Calls Tryz.prog 270 #[.iface 284 (.agg #[nI n, .iface 259 (nI c)]), .iface 259 (nI d)] w fun e w' => e = .returned (.bool (c == d)) ∧ Bl w w' := by
 have h8 := @run_callFunc_extern Tryz.prog 279 _ Extern.ReflectliteType.typeOf Tryz.func279 (by kernel_rfl) (by kernel_rfl) (by kernel_rfl) (by kernel_rfl);have g := @run_callFunc_extern Tryz.prog 321 _ compF Tryz.func321 (by kernel_rfl) (by kernel_rfl) (by kernel_rfl) (by kernel_rfl);have tT := er_typeOf;have cT := er_comp;have mR := er_mComp;have n1 := er_noIsR;have n2 := er_noIsF;have n3 := er_noUnR;have n4 := er_noUnsR;have n5 := er_hasUnF;have mU := er_mUn;have j : ∀ W, (binOp .eql 242 (.iface 284 (.agg #[nI n, .iface 259 (nI c)])) (.iface 259 (nI d))).run Tryz.prog W = .ok (.bool false) W := fun W => run_eql_iface_types (P := Tryz.prog) 284 259 _ _ Tryz.underlying242 (by decide) W;have a : ∀ W, _ := fun W => er_eqR c d W;generalize k : (c == d) = q at a ⊢;go_enter Tryz.func270, Tryz.ntmps270;go_wp2_with go_in
 refine wp_loop_rounds 2 ?_;rw [rounds_succ];go_wp2_with (go_at_call 318; refine (unwrap_any _ _ _).mono ?_; rintro e i ⟨rfl, f⟩)
 rw [rounds_succ];have b : Hid (Bl w i) := f;clear f k;cases q
 ·go_wp2;go_ret
  exact ⟨rfl, b.out⟩
 ·go_wp2;go_ret
  exact ⟨rfl, b.out⟩
def Hold (w : World) : Prop := w.cell? ⟨1, 0, none⟩ = some (.iface 295 (.agg #[.pointer (some ⟨2, 242, none⟩)]))
theorem Hold.lt {w : World} (h : Hold w) : 1 < w.heap.size := cell_lt h
theorem Hold.goes {w W : World} (h : Hold w) (hb : Bl w W) : Hold W := cell_keep hb h h.lt
abbrev hanV (t : Nat) : Value := .iface 295 (.agg #[.pointer (some ⟨2, t, none⟩)])
abbrev valP (a : Addr) : Value := .agg #[.pointer (some ⟨2, 261, none⟩), .pointer (some a), .int .u64 150]
abbrev valO (a : Addr) : Obj := .cells #[.pointer (some ⟨2, 261, none⟩), .pointer (some a), .int .u64 150] 274
def typeF : Array Value → Sem Value := ReflectliteValue.methodAny (ReflectliteValue.valueError "reflectlite.Value.Type" 0) (fun t _ _ _ => ReflectliteType.toType t)
def kindF : Array Value → Sem Value := ReflectliteType.abiMethod fun t => do pure (.int .u8 (← Rtype.kind t))
def isNilF : Array Value → Sem Value := ReflectliteValue.method (ReflectliteValue.valueError "reflectlite.Value.IsNil" 0) ReflectliteValue.isNil
def elemTF : Array Value → Sem Value := ReflectliteType.method ReflectliteType.elem
def implF : Array Value → Sem Value := ReflectliteType.relation "Implements" ReflectliteType.implements_
def asgnF : Array Value → Sem Value := ReflectliteType.relation "AssignableTo" ReflectliteType.assignableTo
def elemVF : Array Value → Sem Value := ReflectliteValue.method (ReflectliteValue.valueError "reflectlite.Value.Elem" 0) ReflectliteValue.elem
def unpF : Array Value → Sem Value := fun args => ReflectliteValue.unpack (args.getD 0 (.tuple #[]))
def setF : Array Value → Sem Value := ReflectliteValue.set
theorem as_unpP (t : Addr) (w : World) : (unpF #[.iface 261 (.pointer (some t))]).run Tryz.prog w = .ok (valP ⟨w.heap.size, 0, none⟩) (w.alloc (.cells #[.pointer (some t)] 261)) := by kernel_rfl
theorem as_type (a : Addr) (w : World) : (typeF #[valP a]).run Tryz.prog w = .ok (hanV 261) w := by kernel_rfl
theorem as_mKind (h : Value) (w : World) : (Go.method 444 295 (.agg #[h]) "Kind").run Tryz.prog w = .ok (306, h) w := by kernel_rfl
theorem as_kindP (w : World) : (kindF #[.pointer (some ⟨2, 261, none⟩)]).run Tryz.prog w = .ok (.int .u8 22) w := by kernel_rfl
theorem as_kindE (w : World) : (kindF #[.pointer (some ⟨2, 259, none⟩)]).run Tryz.prog w = .ok (.int .u8 6) w := by kernel_rfl
theorem mt1 {m : Array Value → Sort _} (v : Value) (h1 : ∀ v, m #[v]) (h2 : ∀ a, m a) : ReflectliteValue.method.match_2 m #[v] h1 h2 = h1 v := rfl
theorem mt2 {m : Array Value → Sort _} (v x : Value) (h1 : ∀ v x, m #[v, x]) (h2 : ∀ a, m a) : ReflectliteValue.set.match_3 m #[v, x] h1 h2 = h1 v x := rfl
theorem as_partsP (a : Addr) (w : World) : (ReflectliteValue.parts (valP a)).run Tryz.prog w = .ok (some (261, a, 150)) w := by kernel_rfl
theorem as_isNil (a p : Addr) (W : World) (ha : W.cell? a = some (.pointer (some p))) : (isNilF #[valP a]).run Tryz.prog W = .ok (.bool false) W := by
 unfold isNilF ReflectliteValue.method;rw [mt1];simp only [Sem.run_bind, as_partsP, Result.andThen];simp [ReflectliteValue.isNil, loadVar, isAgg, underlying, Tryz.underlying261, ha, Result.andThen]
theorem as_mElem (h : Value) (w : World) : (Go.method 444 295 (.agg #[h]) "Elem").run Tryz.prog w = .ok (322, .agg #[h]) w := by kernel_rfl
theorem as_mImpl (h : Value) (w : World) : (Go.method 444 295 (.agg #[h]) "Implements").run Tryz.prog w = .ok (323, .agg #[h]) w := by kernel_rfl
theorem as_mAsgn (h : Value) (w : World) : (Go.method 444 295 (.agg #[h]) "AssignableTo").run Tryz.prog w = .ok (320, .agg #[h]) w := by kernel_rfl
theorem as_elemT (w : World) : (elemTF #[.agg #[.pointer (some ⟨2, 261, none⟩)]]).run Tryz.prog w = .ok (hanV 259) w := by kernel_rfl
theorem as_impl (w : World) : (implF #[.agg #[.pointer (some ⟨2, 259, none⟩)], hanV 242]).run Tryz.prog w = .ok (.bool true) w := by kernel_rfl
theorem as_asgnR (w : World) : (asgnF #[.agg #[.pointer (some ⟨2, 259, none⟩)], hanV 259]).run Tryz.prog w = .ok (.bool true) w := by kernel_rfl
theorem as_asgnF (w : World) : (asgnF #[.agg #[.pointer (some ⟨2, 284, none⟩)], hanV 259]).run Tryz.prog w = .ok (.bool false) w := by kernel_rfl
theorem as_unpE (c : Int) (w : World) : (unpF #[.iface 259 (nI c)]).run Tryz.prog w = .ok (.agg #[.pointer (some ⟨2, 259, none⟩), .pointer (some ⟨w.heap.size, 0, none⟩), .int .u64 134]) (w.alloc (.cells #[nI c] 259)) := by kernel_rfl
theorem as_elemOf (w : World) : (Rtype.elem? 261).run Tryz.prog w = .ok (some 259) w := by kernel_rfl
theorem as_mkE (p : Addr) (w : World) : (ReflectliteValue.mk 259 p ReflectliteValue.flagAddr).run Tryz.prog w = .ok (.agg #[.pointer (some ⟨2, 259, none⟩), .pointer (some p), .int .u64 390]) w := by kernel_rfl
theorem as_elemV (a p : Addr) (W : World) (ha : W.cell? a = some (.pointer (some p))) : (elemVF #[valP a]).run Tryz.prog W = .ok (.agg #[.pointer (some ⟨2, 259, none⟩), .pointer (some p), .int .u64 390]) W := by
 unfold elemVF ReflectliteValue.method;rw [mt1];simp only [Sem.run_bind, as_partsP, Result.andThen];simp [ReflectliteValue.elem, loadVar, isAgg, underlying, Tryz.underlying261, ha, Result.andThen, as_elemOf, as_mkE]
theorem as_partsEa (a : Addr) (w : World) : (ReflectliteValue.parts (.agg #[.pointer (some ⟨2, 259, none⟩), .pointer (some a), .int .u64 390])).run Tryz.prog w = .ok (some (259, a, 390)) w := by kernel_rfl
theorem as_partsE (a : Addr) (w : World) : (ReflectliteValue.parts (.agg #[.pointer (some ⟨2, 259, none⟩), .pointer (some a), .int .u64 134])).run Tryz.prog w = .ok (some (259, a, 134)) w := by kernel_rfl
theorem as_direct (w : World) : (Rtype.directlyAssignable 259 259).run Tryz.prog w = .ok true w := by kernel_rfl
theorem as_set (ta b : Addr) (c : Int) (old : Value) (W : World) (hb : W.cell? b = some (nI c)) (ht : W.cell? ta = some old) (hf : W.frozen? ta = false) :
    (setF #[.agg #[.pointer (some ⟨2, 259, none⟩), .pointer (some ta), .int .u64 390], .agg #[.pointer (some ⟨2, 259, none⟩), .pointer (some b), .int .u64 134]]).run Tryz.prog W = .ok (.tuple #[]) (W.setCell ta (nI c)) := by
 unfold setF ReflectliteValue.set;rw [mt2];simp only [Sem.run_bind, as_partsEa, as_partsE, Result.andThen];simp [ReflectliteValue.flagAddr, loadVar, isAgg, underlying, Tryz.underlying259, hb, Result.andThen, as_direct, storeVar, Value.cells, storeCells, Addr.add]
 rw [run_store Tryz.prog W ta _ _ (by rfl)];simp [ht, hf]
theorem as_noAsF (v : Value) (xT : TypeId) (w : World) : (Instr.typeAssert (.iface 284 v) xT 300 true).run Tryz.prog w = .ok (.tuple #[.nilIface, .bool false]) w := run_typeAssert_lacksB Tryz.underlying300 (by kernel_rfl) (by kernel_rfl) v xT w
open Go.ChangeShapes Go.WideShapes Go.RowKit
abbrev holdL : List (String × DataW Unit) := [("errors.errorType", Rows.laid_errors_errorType)]
theorem gEt : Tryz.prog.globalNamed "errors.errorType" = some 1 := by kernel_rfl
theorem gRt : (Tryz.prog.cutTypes.find? (·.1 == "internal/reflectlite.rtype")).map (·.2) = some 295 := by kernel_rfl
theorem gRow : ((List.range 344).filter fun t => Tryz.prog.rowNamed t [101, 114, 114, 111, 114]) = [242] := by kernel_rfl
theorem gSize : Tryz.prog.types.size = 344 := by kernel_rfl
theorem hold_laid {W : World} (h : laidMetH Tryz.prog holdL W) : Hold W := by
 have l : laidMet Tryz.prog [] W ∧ handlesMet Tryz.prog holdL W := h;obtain ⟨a, u, m, j, d, f, k, b⟩ := l.2 _ (List.mem_singleton.2 rfl);have g : a = [101, 114, 114, 111, 114] := (Option.some.inj j).symm;subst g;obtain rfl := Option.some.inj (gRt.symm.trans d);have c : m ∈ (List.range 344).filter fun t => Tryz.prog.rowNamed t [101, 114, 114, 111, 114] := List.mem_filter.2 ⟨List.mem_range.2 (by rw [← gSize]; exact f), k⟩;rw [gRow] at c;obtain rfl := List.mem_singleton.1 c;have i : typeHandle Tryz.prog 242 = .pointer (some ⟨2, 242, none⟩) := by kernel_rfl
 rw [i] at b;unfold Hold;simpa using World.var?_cell gEt b 0
noncomputable def laidWorld (os : Os) : World :=
 { World.holding Tryz.prog os ⟨#[], #[], []⟩ with heap := (World.holding Tryz.prog os ⟨#[], #[], []⟩).heap.modify 1 fun
     | .cells _ t frozen => .cells #[.iface 295 (.agg #[.pointer (some ⟨2, 242, none⟩)])] t frozen
     | o => o }
theorem laid_met (os : Os) (args : Array Value) : laidMetH Tryz.prog holdL ((laidWorld os).forCall (fun _ _ => 0) ⟨#[], args, []⟩).memory :=
 laidMetH_of_parts (laidMet_nil _ _) (by kernel_rfl)
open Go.ChangeShapes Go.WideShapes Go.ChangeAt Go.RowKit
theorem linesOk_any (k : Int) (w : World) : Calls Tryz.prog 89 #[nI k] w fun e a => e = .returned (.bool (betw k 1 16)) ∧ a = w := by
 go_enter Tryz.func89, Tryz.ntmps89;go_wp2_with (go_at_call 156; refine (between_any _ _ _ _).mono ?_; rintro e a ⟨rfl, rfl⟩)
 go_ret
 exact ⟨rfl, rfl⟩
def powB (n : Int) : Bool := decide (n = 1 ∨ n = 2 ∨ n = 4)
theorem sizeOk_any (n : Int) (w : World) :
    Calls Tryz.prog 188 #[nI n] w fun e w' => e = .returned (.bool (powB n)) ∧ w' = w := by
 go_enter Tryz.func188, Tryz.ntmps188;go_wp2
 all_goals go_ret
 all_goals refine ⟨ret_bool ?_, rfl⟩
 all_goals first | (simp_all [powB]; done) | (rw [Bool.eq_iff_iff]; simp [powB]; omega)
theorem l2Pow_any (n : Int) (w : World) :
    Calls Tryz.prog 127 #[nI n] w fun e w' => e = .returned (.bool (powB n)) ∧ w' = w := by
 go_enter Tryz.func127, Tryz.ntmps127;go_wp2
 all_goals go_ret
 all_goals refine ⟨ret_bool ?_, rfl⟩
 all_goals first | (simp_all [powB]; done) | (rw [Bool.eq_iff_iff]; simp [powB]; omega)
def codeI (c s y l : Int) : Int := if betw c 1 4 then (if powB s then (if powB y then (if betw l 1 16 then 0 else 4) else 3) else 2) else 1
theorem specCode_any (c s y l : Int) (w : World) :
    Calls Tryz.prog 66 #[.agg #[nI c, nI s, nI y, nI l]] w fun e a => e = .returned (nI (codeI c s y l)) ∧ Bl w a := by
 have B := (Below.refl w.heap.size w).alloc (Nat.le_refl _);unfold codeI;cases h1 : betw c 1 4 <;> cases h2 : powB s <;> cases h3 : powB y <;> cases h4 : betw l 1 16
 all_goals
  go_enter Tryz.func66, Tryz.ntmps66
  go_wp2_with (first
   | (go_at_call 126; refine (l1In_any _ _ _ _).mono ?_; rintro e a ⟨rfl, rfl⟩)
   | (go_at_call 127; refine (l2Pow_any _ _).mono ?_; rintro e a ⟨rfl, rfl⟩))
  go_ret
  exact ⟨rfl, B _⟩
theorem firstWrong_any (c s y l : Int) (w : World) :
    Calls Tryz.prog 145 #[.agg #[nI c, nI s, nI y, nI l], nI 1] w fun e a => e = .returned (nI (codeI c s y l)) ∧ Bl w a := by
 have B := (Below.refl w.heap.size w).alloc (Nat.le_refl _);unfold codeI;cases h1 : betw c 1 4 <;> cases h2 : powB s <;> cases h3 : powB y <;> cases h4 : betw l 1 16
 all_goals
  go_enter Tryz.func145, Tryz.ntmps145
  go_wp2_with (first
   | (go_at_call 156; refine (between_any _ _ _ _).mono ?_; rintro e a ⟨rfl, rfl⟩)
   | (go_at_call 89; refine (linesOk_any _ _).mono ?_; rintro e a ⟨rfl, rfl⟩)
   | (go_at_call 188; refine (sizeOk_any _ _).mono ?_; rintro e a ⟨rfl, rfl⟩))
  go_ret
  exact ⟨rfl, B _⟩
theorem implCode_any (c s y l : Int) (w : World) :
    Calls Tryz.prog 83 #[.agg #[nI c, nI s, nI y, nI l]] w fun e a => e = .returned (nI (codeI c s y l)) ∧ Bl w a := by
 have B := (Below.refl w.heap.size w).alloc (Nat.le_refl _);go_enter Tryz.func83, Tryz.ntmps83;go_wp2_with (go_at_call 145; refine (firstWrong_any _ _ _ _ _).mono ?_; rintro e a ⟨rfl, b⟩)
 go_ret
 exact ⟨rfl, below_step (B _) b⟩
theorem code_zero {c s y l : Int} (h : codeI c s y l = 0) : (1 ≤ l ∧ l ≤ 16) ∧ (s = 1 ∨ s = 2 ∨ s = 4) := by
 unfold codeI at h;cases f : betw c 1 4 <;> cases b : powB s <;> cases d : powB y <;> cases a : betw l 1 16 <;> simp [f, b, d, a] at h
 simp [betw] at a
 simp [powB] at b
 exact ⟨a, b⟩
def lineB (c s y l k : Int) : Bool := decide (codeI c s y l = 0 ∧ 0 ≤ k ∧ k < l)
def addrB (c s y l k : Int) : Bool := decide (codeI c s y l = 0 ∧ 0 ≤ k ∧ k < 2 * l)
theorem box_cell {w w1 : World} {cs : Array Value} {t : TypeId} (h : Below (w.alloc (.cells cs t)).heap.size (w.alloc (.cells cs t)) w1) (j : Nat) : w1.cell? ⟨w.heap.size, j, none⟩ = cs[j]? := by
 rw [h.cell (by simp), cell_of_row (w.alloc (.cells cs t)) w.heap.size j cs t (0, 0) (heap_alloc_new w _)]
theorem hasLine_any (c s y l k : Int) (w : World) :
    Calls Tryz.prog 212 #[.agg #[nI c, nI s, nI y, nI l], nI k] w fun e g => e = .returned (.bool (lineB c s y l k)) ∧ Bl w g := by
 have B := (Below.refl w.heap.size w).alloc (Nat.le_refl _);by_cases a : codeI c s y l = 0
 ·obtain ⟨hl, i⟩ := code_zero a;have d : (codeI c s y l == 0) = true := by simp [a]
  have f : Hid (lineB c s y l k = betw k 0 (l - 1)) := by
   unfold Hid lineB betw;simp only [a, true_and];rw [Bool.eq_iff_iff];simp
   omega
  clear a i;go_enter Tryz.func212, Tryz.ntmps212;go_wp2_with fail
  refine (implCode_any _ _ _ _ _).mono ?_;rintro e j ⟨rfl, b⟩;have m := (box_cell b 3);simp only [List.getElem?_toArray, List.getElem?_cons_succ, List.getElem?_cons_zero] at m;go_wp2_with (go_at_call 156; refine (between_any _ _ _ _).mono ?_; rintro e g ⟨rfl, rfl⟩)
  go_ret
  exact ⟨ret_bool f.out.symm, below_step (B _) b⟩
 ·have d : (codeI c s y l == 0) = false := by simp [a]
  have f : Hid (lineB c s y l k = false) := by
   unfold Hid lineB;simp [a]
  clear a;go_enter Tryz.func212, Tryz.ntmps212;go_wp2_with (go_at_call 83; refine (implCode_any _ _ _ _ _).mono ?_; rintro e j ⟨rfl, b⟩)
  go_ret
  exact ⟨ret_bool f.out.symm, below_step (B _) b⟩
theorem lineB_eq {c s y l a : Int} (h : codeI c s y l = 0) : lineB c s y l a = betw a 0 (l - 1) := by
 unfold lineB betw;simp only [h, true_and];rw [Bool.eq_iff_iff];simp
 omega
theorem l2Addr_any (c s y l a : Int) (w : World) (hl : 1 ≤ l ∧ l ≤ 16) :
    Calls Tryz.prog 137 #[.agg #[nI c, nI s, nI y, nI l], nI a] w fun e w' => e = .returned (.bool (betw a 0 (2 * l - 1))) ∧ Bl w w' := by
 have B := (Below.refl w.heap.size w).alloc (Nat.le_refl _);by_cases h1 : 0 ≤ a
 ·by_cases h2 : a < 2 * l
  all_goals
   go_enter Tryz.func137, Tryz.ntmps137;go_wp2;go_ret
   exact ⟨ret_bool (by unfold betw; rw [Bool.eq_iff_iff]; simp; omega), B _⟩
 ·go_enter Tryz.func137, Tryz.ntmps137;go_wp2;go_ret
  exact ⟨ret_bool (by unfold betw; rw [Bool.eq_iff_iff]; simp; omega), B _⟩
theorem addrB_half (c s y l a : Int) (h : 0 ≤ a) : lineB c s y l (a / 2) = addrB c s y l a := by
 unfold addrB lineB;rw [Bool.eq_iff_iff];simp
 intro _;omega
theorem addrB_neg (c s y l a : Int) (h : ¬ 0 ≤ a) : addrB c s y l a = false := by
 unfold addrB;simp
 omega
theorem hasAddr_any (c s y l a : Int) (w : World) (hw : 0 ≤ a → wrap64 (a.tdiv 2) = a / 2) :
    Calls Tryz.prog 264 #[.agg #[nI c, nI s, nI y, nI l], nI a] w fun e w' => e = .returned (.bool (addrB c s y l a)) ∧ Bl w w' := by
 have B := (Below.refl w.heap.size w).alloc (Nat.le_refl _);by_cases d : 0 ≤ a
 ·have H := addrB_half c s y l a d;have b : Hid _ := H;have g := hw d;clear H hw;go_enter Tryz.func264, Tryz.ntmps264;go_wp2_with (go_at_call 212; refine (hasLine_any _ _ _ _ _ _).mono ?_; rintro e w1 ⟨rfl, f⟩)
  go_ret
  exact ⟨ret_bool b.out, below_step (B _) f⟩
 ·have b : Hid _ := addrB_neg c s y l a d;clear hw;go_enter Tryz.func264, Tryz.ntmps264;go_wp2;go_ret
  exact ⟨ret_bool b.out.symm, B _⟩
end Go.Proofs.YtdamokokcdcedaaGreatDoor
