import Derived.Test.YtiiipclglngdhaaGreatDoorQ00Box
import Derived.Test.YtiiipclglngdhaaGreatDoorChecked
import Derived.Test.YtiiipclglngdhaaGreatDoorQ03Bits
import Derived.WalkKit
import Derived.LaidEql
import Derived.Stop.Asserts
import Derived.RowKitTokens
import Derived.Test.YtiiipclglngdhaaGreatDoorCards
import Derived.Test.YtiiipclglngdhaaGreatDoorTie
import Derived.ChangeSame
import Derived.ChangeVars
import Derived.JoinedOf
import Derived.RowKit
import Derived.LaidLaws
import Derived.LaidHandle
import Derived.SevenTiedAt
import Derived.Stop.Joined
import Derived.Test.YtiiipclglngdhaaGreatDoorQ02Nums
import Derived.Below
import Derived.Deep.QuietTactic
import Derived.BigQuiet
import Derived.WalkSmall
namespace Go.Proofs.YtiiipclglngdhaaGreatDoor
set_option maxHeartbeats 4000000
open Go.RowKit Go.Extern.Stop Go.Stop Go.Extern
set_option linter.unusedVariables false
abbrev refV (c : Int) : Value := .iface 216 (.int .i64 c)
abbrev fltV (n c : Int) : Value := .iface 249 (.agg #[.int .i64 n, .iface 216 (.int .i64 c)])
theorem er_typeOf (v : Value) (w : World) : (Extern.ReflectliteType.typeOf #[.iface 216 v]).run Tryz.prog w = .ok (.iface 262 (.agg #[.pointer (some ⟨1, 216, none⟩)])) w := by kernel_rfl
theorem er_typeOfF (v : Value) (w : World) : (Extern.ReflectliteType.typeOf #[.iface 249 v]).run Tryz.prog w = .ok (.iface 262 (.agg #[.pointer (some ⟨1, 249, none⟩)])) w := by kernel_rfl
def compF : Array Value → Sem Value := Extern.ReflectliteType.method fun t => do Extern.Rtype.noPackHeld "Comparable" t; pure (.bool (← typeInfo t).comparable)
theorem er_comp (w : World) : (compF #[.agg #[.pointer (some ⟨1, 216, none⟩)]]).run Tryz.prog w = .ok (.bool true) w := by kernel_rfl
theorem er_mComp (v : Value) (w : World) : (Go.method 412 262 v "Comparable").run Tryz.prog w = .ok (275, v) w := by kernel_rfl
theorem er_isComp : (Tryz.prog.info? 216).map (·.comparable) = some true := by kernel_rfl
theorem er_noIsR (v : Value) (xT : TypeId) (w : World) : (Instr.typeAssert (.iface 216 v) xT 278 true).run Tryz.prog w = .ok (.tuple #[.nilIface, .bool false]) w := run_typeAssert_lacksB Tryz.underlying278 (by kernel_rfl) (by kernel_rfl) v xT w
theorem er_noIsF (v : Value) (xT : TypeId) (w : World) : (Instr.typeAssert (.iface 249 v) xT 278 true).run Tryz.prog w = .ok (.tuple #[.nilIface, .bool false]) w := run_typeAssert_lacksB Tryz.underlying278 (by kernel_rfl) (by kernel_rfl) v xT w
theorem er_noUnR (v : Value) (xT : TypeId) (w : World) : (Instr.typeAssert (.iface 216 v) xT 270 true).run Tryz.prog w = .ok (.tuple #[.nilIface, .bool false]) w := run_typeAssert_lacksB Tryz.underlying270 (by kernel_rfl) (by kernel_rfl) v xT w
theorem er_noUnsR (v : Value) (xT : TypeId) (w : World) : (Instr.typeAssert (.iface 216 v) xT 272 true).run Tryz.prog w = .ok (.tuple #[.nilIface, .bool false]) w := run_typeAssert_lacksB Tryz.underlying272 (by kernel_rfl) (by kernel_rfl) v xT w
theorem er_hasUnF (v : Value) (xT : TypeId) (w : World) : (Instr.typeAssert (.iface 249 v) xT 270 true).run Tryz.prog w = .ok (.tuple #[.iface 249 v, .bool true]) w := run_typeAssert_hasB Tryz.underlying270 (by kernel_rfl) v xT w
theorem er_mUn (v : Value) (w : World) : (Go.method 412 249 v "Unwrap").run Tryz.prog w = .ok (272, v) w := by kernel_rfl
theorem er_eqR (a b : Int) (w : World) : (binOp .eql 189 (.iface 216 (.int .i64 a)) (.iface 216 (.int .i64 b))).run Tryz.prog w = .ok (.bool (a == b)) w := by
 obtain ⟨i, hi, hcmp⟩ := Option.map_eq_some_iff.1 er_isComp
 have h : ∀ d : Nat, (Op.equalIn (d + 2) 189 (.iface 216 (.int .i64 a)) (.iface 216 (.int .i64 b))).run Tryz.prog w = .ok (a == b) w := fun d => by
  simp [Op.equalIn, run_underlying Tryz.underlying189, run_underlying Tryz.underlying216, typeInfo, hi, hcmp]
 simp only [binOp]
 simp [Op.equal, Op.maxDepth, h 9998]
theorem unwrap_any (n c : Int) (w : World) : Calls Tryz.prog 272 #[.agg #[.int .i64 n, .iface 216 (.int .i64 c)]] w fun e w' => e = .returned (.iface 216 (.int .i64 c)) ∧ Below w.heap.size w w' := by
 have bx := box_below w (.cells #[.int .i64 n, .iface 216 (.int .i64 c)] 249)
 go_enter Tryz.func272, Tryz.ntmps272
 go_wp2
 go_ret
 exact ⟨rfl, bx⟩
theorem isFault_any (n c d : Int) (w : World) : Calls Tryz.prog 216 #[.iface 249 (.agg #[.int .i64 n, .iface 216 (.int .i64 c)]), .iface 216 (.int .i64 d)] w fun e w' => e = .returned (.bool (c == d)) ∧ Below w.heap.size w w' := by
 have h8 := @run_callFunc_extern Tryz.prog 230 _ Extern.ReflectliteType.typeOf Tryz.func230 (by kernel_rfl) (by kernel_rfl) (by kernel_rfl) (by kernel_rfl)
 have h32 := @run_callFunc_extern Tryz.prog 275 _ compF Tryz.func275 (by kernel_rfl) (by kernel_rfl) (by kernel_rfl) (by kernel_rfl)
 have tT := er_typeOf
 have cT := er_comp
 have mR := er_mComp
 have n1 := er_noIsR
 have n2 := er_noIsF
 have n3 := er_noUnR
 have n4 := er_noUnsR
 have n5 := er_hasUnF
 have mU := er_mUn
 have hty : ∀ W, (binOp .eql 189 (.iface 249 (.agg #[.int .i64 n, .iface 216 (.int .i64 c)])) (.iface 216 (.int .i64 d))).run Tryz.prog W = .ok (.bool false) W := fun W => run_eql_iface_types (P := Tryz.prog) 249 216 _ _ Tryz.underlying189 (by decide) W
 have heq : ∀ W, _ := fun W => er_eqR c d W
 generalize hq : (c == d) = q at heq ⊢
 go_enter Tryz.func216, Tryz.ntmps216
 go_wp2_with go_in
 refine wp_loop_rounds 2 ?_
 rw [rounds_succ]
 go_wp2_with (go_at_call 272; refine (unwrap_any _ _ _).mono ?_; rintro e w1 ⟨rfl, bb⟩)
 rw [rounds_succ]
 have HB : Hid (Below w.heap.size w w1) := bb
 clear bb hq
 cases q
 ·go_wp2
  go_ret
  exact ⟨rfl, HB.out⟩
 ·go_wp2
  go_ret
  exact ⟨rfl, HB.out⟩
def Hold (w : World) : Prop := w.cell? ⟨0, 0, none⟩ = some (.iface 262 (.agg #[.pointer (some ⟨1, 189, none⟩)]))
theorem Hold.lt {w : World} (h : Hold w) : 0 < w.heap.size := cell_lt h
theorem Hold.goes {w W : World} (h : Hold w) (hb : Below w.heap.size w W) : Hold W := cell_keep hb h h.lt
abbrev hanV (t : Nat) : Value := .iface 262 (.agg #[.pointer (some ⟨1, t, none⟩)])
abbrev valP (a : Addr) : Value := .agg #[.pointer (some ⟨1, 218, none⟩), .pointer (some a), .int .u64 150]
abbrev valO (a : Addr) : Obj := .cells #[.pointer (some ⟨1, 218, none⟩), .pointer (some a), .int .u64 150] 239
def typeF : Array Value → Sem Value := ReflectliteValue.methodAny (ReflectliteValue.valueError "reflectlite.Value.Type" 0) (fun t _ _ _ => ReflectliteType.toType t)
def kindF : Array Value → Sem Value := ReflectliteType.abiMethod fun t => do pure (.int .u8 (← Rtype.kind t))
def isNilF : Array Value → Sem Value := ReflectliteValue.method (ReflectliteValue.valueError "reflectlite.Value.IsNil" 0) ReflectliteValue.isNil
def elemTF : Array Value → Sem Value := ReflectliteType.method ReflectliteType.elem
def implF : Array Value → Sem Value := ReflectliteType.relation "Implements" ReflectliteType.implements_
def asgnF : Array Value → Sem Value := ReflectliteType.relation "AssignableTo" ReflectliteType.assignableTo
def elemVF : Array Value → Sem Value := ReflectliteValue.method (ReflectliteValue.valueError "reflectlite.Value.Elem" 0) ReflectliteValue.elem
def unpF : Array Value → Sem Value := fun args => ReflectliteValue.unpack (args.getD 0 (.tuple #[]))
def setF : Array Value → Sem Value := ReflectliteValue.set
theorem as_unpP (t : Addr) (w : World) : (unpF #[.iface 218 (.pointer (some t))]).run Tryz.prog w = .ok (valP ⟨w.heap.size, 0, none⟩) (w.alloc (.cells #[.pointer (some t)] 218)) := by kernel_rfl
theorem as_type (a : Addr) (w : World) : (typeF #[valP a]).run Tryz.prog w = .ok (hanV 218) w := by kernel_rfl
theorem as_mKind (h : Value) (w : World) : (Go.method 412 262 (.agg #[h]) "Kind").run Tryz.prog w = .ok (258, h) w := by kernel_rfl
theorem as_kindP (w : World) : (kindF #[.pointer (some ⟨1, 218, none⟩)]).run Tryz.prog w = .ok (.int .u8 22) w := by kernel_rfl
theorem as_kindE (w : World) : (kindF #[.pointer (some ⟨1, 216, none⟩)]).run Tryz.prog w = .ok (.int .u8 6) w := by kernel_rfl
theorem mt1 {m : Array Value → Sort _} (v : Value) (h1 : ∀ v, m #[v]) (h2 : ∀ a, m a) : ReflectliteValue.method.match_2 m #[v] h1 h2 = h1 v := rfl
theorem mt2 {m : Array Value → Sort _} (v x : Value) (h1 : ∀ v x, m #[v, x]) (h2 : ∀ a, m a) : ReflectliteValue.set.match_3 m #[v, x] h1 h2 = h1 v x := rfl
theorem as_partsP (a : Addr) (w : World) : (ReflectliteValue.parts (valP a)).run Tryz.prog w = .ok (some (218, a, 150)) w := by kernel_rfl
theorem as_isNil (a p : Addr) (W : World) (ha : W.cell? a = some (.pointer (some p))) : (isNilF #[valP a]).run Tryz.prog W = .ok (.bool false) W := by
 unfold isNilF ReflectliteValue.method
 rw [mt1]
 simp only [Sem.run_bind, as_partsP, Result.andThen]
 simp [ReflectliteValue.isNil, loadVar, isAgg, underlying, Tryz.underlying218, ha, Result.andThen]
theorem as_mElem (h : Value) (w : World) : (Go.method 412 262 (.agg #[h]) "Elem").run Tryz.prog w = .ok (276, .agg #[h]) w := by kernel_rfl
theorem as_mImpl (h : Value) (w : World) : (Go.method 412 262 (.agg #[h]) "Implements").run Tryz.prog w = .ok (277, .agg #[h]) w := by kernel_rfl
theorem as_mAsgn (h : Value) (w : World) : (Go.method 412 262 (.agg #[h]) "AssignableTo").run Tryz.prog w = .ok (274, .agg #[h]) w := by kernel_rfl
theorem as_elemT (w : World) : (elemTF #[.agg #[.pointer (some ⟨1, 218, none⟩)]]).run Tryz.prog w = .ok (hanV 216) w := by kernel_rfl
theorem as_impl (w : World) : (implF #[.agg #[.pointer (some ⟨1, 216, none⟩)], hanV 189]).run Tryz.prog w = .ok (.bool true) w := by kernel_rfl
theorem as_asgnR (w : World) : (asgnF #[.agg #[.pointer (some ⟨1, 216, none⟩)], hanV 216]).run Tryz.prog w = .ok (.bool true) w := by kernel_rfl
theorem as_asgnF (w : World) : (asgnF #[.agg #[.pointer (some ⟨1, 249, none⟩)], hanV 216]).run Tryz.prog w = .ok (.bool false) w := by kernel_rfl
theorem as_unpE (c : Int) (w : World) : (unpF #[.iface 216 (.int .i64 c)]).run Tryz.prog w = .ok (.agg #[.pointer (some ⟨1, 216, none⟩), .pointer (some ⟨w.heap.size, 0, none⟩), .int .u64 134]) (w.alloc (.cells #[.int .i64 c] 216)) := by kernel_rfl
theorem as_elemOf (w : World) : (Rtype.elem? 218).run Tryz.prog w = .ok (some 216) w := by kernel_rfl
theorem as_mkE (p : Addr) (w : World) : (ReflectliteValue.mk 216 p ReflectliteValue.flagAddr).run Tryz.prog w = .ok (.agg #[.pointer (some ⟨1, 216, none⟩), .pointer (some p), .int .u64 390]) w := by kernel_rfl
theorem as_elemV (a p : Addr) (W : World) (ha : W.cell? a = some (.pointer (some p))) : (elemVF #[valP a]).run Tryz.prog W = .ok (.agg #[.pointer (some ⟨1, 216, none⟩), .pointer (some p), .int .u64 390]) W := by
 unfold elemVF ReflectliteValue.method
 rw [mt1]
 simp only [Sem.run_bind, as_partsP, Result.andThen]
 simp [ReflectliteValue.elem, loadVar, isAgg, underlying, Tryz.underlying218, ha, Result.andThen, as_elemOf, as_mkE]
theorem as_partsEa (a : Addr) (w : World) : (ReflectliteValue.parts (.agg #[.pointer (some ⟨1, 216, none⟩), .pointer (some a), .int .u64 390])).run Tryz.prog w = .ok (some (216, a, 390)) w := by kernel_rfl
theorem as_partsE (a : Addr) (w : World) : (ReflectliteValue.parts (.agg #[.pointer (some ⟨1, 216, none⟩), .pointer (some a), .int .u64 134])).run Tryz.prog w = .ok (some (216, a, 134)) w := by kernel_rfl
theorem as_direct (w : World) : (Rtype.directlyAssignable 216 216).run Tryz.prog w = .ok true w := by kernel_rfl
theorem as_set (ta b : Addr) (c : Int) (old : Value) (W : World) (hb : W.cell? b = some (.int .i64 c)) (ht : W.cell? ta = some old) (hf : W.frozen? ta = false) :
    (setF #[.agg #[.pointer (some ⟨1, 216, none⟩), .pointer (some ta), .int .u64 390], .agg #[.pointer (some ⟨1, 216, none⟩), .pointer (some b), .int .u64 134]]).run Tryz.prog W = .ok (.tuple #[]) (W.setCell ta (.int .i64 c)) := by
 unfold setF ReflectliteValue.set
 rw [mt2]
 simp only [Sem.run_bind, as_partsEa, as_partsE, Result.andThen]
 simp [ReflectliteValue.flagAddr, loadVar, isAgg, underlying, Tryz.underlying216, hb, Result.andThen, as_direct, storeVar, Value.cells, storeCells, Addr.add]
 rw [run_store Tryz.prog W ta _ _ (by rfl)]
 simp [ht, hf]
theorem as_noAsF (v : Value) (xT : TypeId) (w : World) : (Instr.typeAssert (.iface 249 v) xT 267 true).run Tryz.prog w = .ok (.tuple #[.nilIface, .bool false]) w := run_typeAssert_lacksB Tryz.underlying267 (by kernel_rfl) (by kernel_rfl) v xT w
open Go.ChangeShapes Go.WideShapes Go.RowKit
abbrev holdL : List (String × DataW Unit) := [("errors.errorType", Rows.laid_errors_errorType)]
theorem gEt : Tryz.prog.globalNamed "errors.errorType" = some 0 := by kernel_rfl
theorem gRt : (Tryz.prog.cutTypes.find? (·.1 == "internal/reflectlite.rtype")).map (·.2) = some 262 := by kernel_rfl
theorem gRow : ((List.range 312).filter fun t => Tryz.prog.rowNamed t [101, 114, 114, 111, 114]) = [189] := by kernel_rfl
theorem gSize : Tryz.prog.types.size = 312 := by kernel_rfl
theorem hold_laid {W : World} (h : laidMetH Tryz.prog holdL W) : Hold W := by
 have h' : laidMet Tryz.prog [] W ∧ handlesMet Tryz.prog holdL W := h
 obtain ⟨name, u, ty, e1, e2, e3, e4, e5⟩ := h'.2 _ (List.mem_singleton.2 rfl)
 have en : name = [101, 114, 114, 111, 114] := (Option.some.inj e1).symm
 subst en
 obtain rfl := Option.some.inj (gRt.symm.trans e2)
 have hm : ty ∈ (List.range 312).filter fun t => Tryz.prog.rowNamed t [101, 114, 114, 111, 114] := List.mem_filter.2 ⟨List.mem_range.2 (by rw [← gSize]; exact e3), e4⟩
 rw [gRow] at hm
 obtain rfl := List.mem_singleton.1 hm
 have hh : typeHandle Tryz.prog 189 = .pointer (some ⟨1, 189, none⟩) := by kernel_rfl
 rw [hh] at e5
 unfold Hold
 simpa using World.var?_cell gEt e5 0
noncomputable def laidWorld (os : Os) : World :=
 { World.holding Tryz.prog os ⟨#[], #[], []⟩ with heap := (World.holding Tryz.prog os ⟨#[], #[], []⟩).heap.modify 0 fun
     | .cells _ t frozen => .cells #[.iface 262 (.agg #[.pointer (some ⟨1, 189, none⟩)])] t frozen
     | o => o }
theorem laid_met (os : Os) (args : Array Value) : laidMetH Tryz.prog holdL ((laidWorld os).forCall (fun _ _ => 0) ⟨#[], args, []⟩).memory :=
 laidMetH_of_parts (laidMet_nil _ _) (by kernel_rfl)
open Go.ChangeShapes Go.WideShapes Go.ChangeAt Go.RowKit
theorem linesOk_any (k : Int) (w : World) : Calls Tryz.prog 125 #[.int .i64 k] w fun e w' => e = .returned (.bool (betw k 1 16)) ∧ w' = w := by
 go_enter Tryz.func125, Tryz.ntmps125
 go_wp2_with (go_at_call 123; refine (between_any _ _ _ _).mono ?_; rintro e w' ⟨rfl, rfl⟩)
 go_ret
 exact ⟨rfl, rfl⟩
def powB (n : Int) : Bool := decide (n = 1 ∨ n = 2 ∨ n = 4)
theorem sizeOk_any (n : Int) (w : World) :
    Calls Tryz.prog 124 #[.int .i64 n] w fun e w' => e = .returned (.bool (powB n)) ∧ w' = w := by
 go_enter Tryz.func124, Tryz.ntmps124
 go_wp2
 all_goals go_ret
 all_goals refine ⟨ret_bool ?_, rfl⟩
 all_goals first | (simp_all [powB]; done) | (rw [Bool.eq_iff_iff]; simp [powB]; omega)
theorem l2Pow_any (n : Int) (w : World) :
    Calls Tryz.prog 79 #[.int .i64 n] w fun e w' => e = .returned (.bool (powB n)) ∧ w' = w := by
 go_enter Tryz.func79, Tryz.ntmps79
 go_wp2
 all_goals go_ret
 all_goals refine ⟨ret_bool ?_, rfl⟩
 all_goals first | (simp_all [powB]; done) | (rw [Bool.eq_iff_iff]; simp [powB]; omega)
def codeI (c s y l : Int) : Int := if betw c 1 4 then (if powB s then (if powB y then (if betw l 1 16 then 0 else 4) else 3) else 2) else 1
theorem specCode_any (c s y l : Int) (w : World) :
    Calls Tryz.prog 41 #[.agg #[.int .i64 c, .int .i64 s, .int .i64 y, .int .i64 l]] w fun e w' => e = .returned (.int .i64 (codeI c s y l)) ∧ Below w.heap.size w w' := by
 have B := (Below.refl w.heap.size w).alloc (Nat.le_refl _)
 unfold codeI
 cases h1 : betw c 1 4 <;> cases h2 : powB s <;> cases h3 : powB y <;> cases h4 : betw l 1 16
 all_goals
  go_enter Tryz.func41, Tryz.ntmps41
  go_wp2_with (first
   | (go_at_call 78; refine (l1In_any _ _ _ _).mono ?_; rintro e w' ⟨rfl, rfl⟩)
   | (go_at_call 79; refine (l2Pow_any _ _).mono ?_; rintro e w' ⟨rfl, rfl⟩))
  go_ret
  exact ⟨rfl, B _⟩
theorem firstWrong_any (c s y l : Int) (w : World) :
    Calls Tryz.prog 98 #[.agg #[.int .i64 c, .int .i64 s, .int .i64 y, .int .i64 l], .int .i64 1] w fun e w' => e = .returned (.int .i64 (codeI c s y l)) ∧ Below w.heap.size w w' := by
 have B := (Below.refl w.heap.size w).alloc (Nat.le_refl _)
 unfold codeI
 cases h1 : betw c 1 4 <;> cases h2 : powB s <;> cases h3 : powB y <;> cases h4 : betw l 1 16
 all_goals
  go_enter Tryz.func98, Tryz.ntmps98
  go_wp2_with (first
   | (go_at_call 123; refine (between_any _ _ _ _).mono ?_; rintro e w' ⟨rfl, rfl⟩)
   | (go_at_call 125; refine (linesOk_any _ _).mono ?_; rintro e w' ⟨rfl, rfl⟩)
   | (go_at_call 124; refine (sizeOk_any _ _).mono ?_; rintro e w' ⟨rfl, rfl⟩))
  go_ret
  exact ⟨rfl, B _⟩
theorem implCode_any (c s y l : Int) (w : World) :
    Calls Tryz.prog 56 #[.agg #[.int .i64 c, .int .i64 s, .int .i64 y, .int .i64 l]] w fun e w' => e = .returned (.int .i64 (codeI c s y l)) ∧ Below w.heap.size w w' := by
 have B := (Below.refl w.heap.size w).alloc (Nat.le_refl _)
 go_enter Tryz.func56, Tryz.ntmps56
 go_wp2_with (go_at_call 98; refine (firstWrong_any _ _ _ _ _).mono ?_; rintro e w' ⟨rfl, b1⟩)
 go_ret
 exact ⟨rfl, below_step (B _) b1⟩
theorem code_zero {c s y l : Int} (h : codeI c s y l = 0) : (1 ≤ l ∧ l ≤ 16) ∧ (s = 1 ∨ s = 2 ∨ s = 4) := by
 unfold codeI at h
 cases h1 : betw c 1 4 <;> cases h2 : powB s <;> cases h3 : powB y <;> cases h4 : betw l 1 16 <;> simp [h1, h2, h3, h4] at h
 simp [betw] at h4
 simp [powB] at h2
 exact ⟨h4, h2⟩
def lineB (c s y l k : Int) : Bool := decide (codeI c s y l = 0 ∧ 0 ≤ k ∧ k < l)
def addrB (c s y l k : Int) : Bool := decide (codeI c s y l = 0 ∧ 0 ≤ k ∧ k < 2 * l)
theorem box_cell {w w1 : World} {cs : Array Value} {t : TypeId} (h : Below (w.alloc (.cells cs t)).heap.size (w.alloc (.cells cs t)) w1) (j : Nat) : w1.cell? ⟨w.heap.size, j, none⟩ = cs[j]? := by
 rw [h.cell (by simp), cell_of_row (w.alloc (.cells cs t)) w.heap.size j cs t (0, 0) (heap_alloc_new w _)]
theorem hasLine_any (c s y l k : Int) (w : World) :
    Calls Tryz.prog 153 #[.agg #[.int .i64 c, .int .i64 s, .int .i64 y, .int .i64 l], .int .i64 k] w fun e w' => e = .returned (.bool (lineB c s y l k)) ∧ Below w.heap.size w w' := by
 have B := (Below.refl w.heap.size w).alloc (Nat.le_refl _)
 by_cases h0 : codeI c s y l = 0
 ·obtain ⟨hl, hs⟩ := code_zero h0
  have h0' : (codeI c s y l == 0) = true := by simp [h0]
  have HL : Hid (lineB c s y l k = betw k 0 (l - 1)) := by
   unfold Hid lineB betw
   simp only [h0, true_and]
   rw [Bool.eq_iff_iff]
   simp
   omega
  clear h0 hs
  go_enter Tryz.func153, Tryz.ntmps153
  go_wp2_with fail
  refine (implCode_any _ _ _ _ _).mono ?_
  rintro e w1 ⟨rfl, b1⟩
  have c3 := (box_cell b1 3)
  simp only [List.getElem?_toArray, List.getElem?_cons_succ, List.getElem?_cons_zero] at c3
  go_wp2_with (go_at_call 123; refine (between_any _ _ _ _).mono ?_; rintro e w' ⟨rfl, rfl⟩)
  go_ret
  exact ⟨ret_bool HL.out.symm, below_step (B _) b1⟩
 ·have h0' : (codeI c s y l == 0) = false := by simp [h0]
  have HL : Hid (lineB c s y l k = false) := by
   unfold Hid lineB
   simp [h0]
  clear h0
  go_enter Tryz.func153, Tryz.ntmps153
  go_wp2_with (go_at_call 56; refine (implCode_any _ _ _ _ _).mono ?_; rintro e w1 ⟨rfl, b1⟩)
  go_ret
  exact ⟨ret_bool HL.out.symm, below_step (B _) b1⟩
theorem lineB_eq {c s y l a : Int} (h : codeI c s y l = 0) : lineB c s y l a = betw a 0 (l - 1) := by
 unfold lineB betw
 simp only [h, true_and]
 rw [Bool.eq_iff_iff]
 simp
 omega
theorem l2Addr_any (c s y l a : Int) (w : World) (hl : 1 ≤ l ∧ l ≤ 16) :
    Calls Tryz.prog 90 #[.agg #[.int .i64 c, .int .i64 s, .int .i64 y, .int .i64 l], .int .i64 a] w fun e w' => e = .returned (.bool (betw a 0 (2 * l - 1))) ∧ Below w.heap.size w w' := by
 have B := (Below.refl w.heap.size w).alloc (Nat.le_refl _)
 by_cases h1 : 0 ≤ a
 ·by_cases h2 : a < 2 * l
  all_goals
   go_enter Tryz.func90, Tryz.ntmps90
   go_wp2
   go_ret
   exact ⟨ret_bool (by unfold betw; rw [Bool.eq_iff_iff]; simp; omega), B _⟩
 ·go_enter Tryz.func90, Tryz.ntmps90
  go_wp2
  go_ret
  exact ⟨ret_bool (by unfold betw; rw [Bool.eq_iff_iff]; simp; omega), B _⟩
theorem addrB_half (c s y l a : Int) (h : 0 ≤ a) : lineB c s y l (a / 2) = addrB c s y l a := by
 unfold addrB lineB
 rw [Bool.eq_iff_iff]
 simp
 intro _
 omega
theorem addrB_neg (c s y l a : Int) (h : ¬ 0 ≤ a) : addrB c s y l a = false := by
 unfold addrB
 simp
 omega
theorem hasAddr_any (c s y l a : Int) (w : World) (hw : 0 ≤ a → wrap64 (a.tdiv 2) = a / 2) :
    Calls Tryz.prog 207 #[.agg #[.int .i64 c, .int .i64 s, .int .i64 y, .int .i64 l], .int .i64 a] w fun e w' => e = .returned (.bool (addrB c s y l a)) ∧ Below w.heap.size w w' := by
 have B := (Below.refl w.heap.size w).alloc (Nat.le_refl _)
 by_cases h1 : 0 ≤ a
 ·have H := addrB_half c s y l a h1
  have H' : Hid _ := H
  have hw' := hw h1
  clear H hw
  go_enter Tryz.func207, Tryz.ntmps207
  go_wp2_with (go_at_call 153; refine (hasLine_any _ _ _ _ _ _).mono ?_; rintro e w1 ⟨rfl, b1⟩)
  go_ret
  exact ⟨ret_bool H'.out, below_step (B _) b1⟩
 ·have H' : Hid _ := addrB_neg c s y l a h1
  clear hw
  go_enter Tryz.func207, Tryz.ntmps207
  go_wp2
  go_ret
  exact ⟨ret_bool H'.out.symm, B _⟩
end Go.Proofs.YtiiipclglngdhaaGreatDoor
