
/- errors.As at a refusal and at a fault that wraps one; the code that is taken out. Conditions: as told at each. -/
import Derived.Test.YteblffhbennpnaaDoorErrs
import Derived.Deep.RegionWith
namespace Go.Proofs.YteblffhbennpnaaDoor
open Go.RowKit Go.Extern.Stop Go.Stop Go.Extern
set_option linter.unusedVariables false

theorem ex_typeOf (args : Array Value) (w : World) : (callFunc 73 args).run Tryd.prog w = ((Extern.ReflectliteType.typeOf args).run Tryd.prog w).andThen fun v w' => .ok (.value v) w' := @run_callFunc_extern Tryd.prog 73 _ Extern.ReflectliteType.typeOf Tryd.func73 (by kernel_rfl) (by kernel_rfl) (by kernel_rfl) (by kernel_rfl) args w
theorem ex_unp (args : Array Value) (w : World) : (callFunc 63 args).run Tryd.prog w = ((unpF args).run Tryd.prog w).andThen fun v w' => .ok (.value v) w' := @run_callFunc_extern Tryd.prog 63 _ unpF Tryd.func63 (by kernel_rfl) (by kernel_rfl) (by kernel_rfl) (by kernel_rfl) args w
theorem ex_type (args : Array Value) (w : World) : (callFunc 64 args).run Tryd.prog w = ((typeF args).run Tryd.prog w).andThen fun v w' => .ok (.value v) w' := @run_callFunc_extern Tryd.prog 64 _ typeF Tryd.func64 (by kernel_rfl) (by kernel_rfl) (by kernel_rfl) (by kernel_rfl) args w
theorem ex_isNil (args : Array Value) (w : World) : (callFunc 65 args).run Tryd.prog w = ((isNilF args).run Tryd.prog w).andThen fun v w' => .ok (.value v) w' := @run_callFunc_extern Tryd.prog 65 _ isNilF Tryd.func65 (by kernel_rfl) (by kernel_rfl) (by kernel_rfl) (by kernel_rfl) args w
theorem ex_kind (args : Array Value) (w : World) : (callFunc 102 args).run Tryd.prog w = ((kindF args).run Tryd.prog w).andThen fun v w' => .ok (.value v) w' := @run_callFunc_extern Tryd.prog 102 _ kindF Tryd.func102 (by kernel_rfl) (by kernel_rfl) (by kernel_rfl) (by kernel_rfl) args w
theorem ex_elemT (args : Array Value) (w : World) : (callFunc 114 args).run Tryd.prog w = ((elemTF args).run Tryd.prog w).andThen fun v w' => .ok (.value v) w' := @run_callFunc_extern Tryd.prog 114 _ elemTF Tryd.func114 (by kernel_rfl) (by kernel_rfl) (by kernel_rfl) (by kernel_rfl) args w
theorem ex_impl (args : Array Value) (w : World) : (callFunc 115 args).run Tryd.prog w = ((implF args).run Tryd.prog w).andThen fun v w' => .ok (.value v) w' := @run_callFunc_extern Tryd.prog 115 _ implF Tryd.func115 (by kernel_rfl) (by kernel_rfl) (by kernel_rfl) (by kernel_rfl) args w
theorem ex_asgn (args : Array Value) (w : World) : (callFunc 112 args).run Tryd.prog w = ((asgnF args).run Tryd.prog w).andThen fun v w' => .ok (.value v) w' := @run_callFunc_extern Tryd.prog 112 _ asgnF Tryd.func112 (by kernel_rfl) (by kernel_rfl) (by kernel_rfl) (by kernel_rfl) args w
theorem ex_elemV (args : Array Value) (w : World) : (callFunc 74 args).run Tryd.prog w = ((elemVF args).run Tryd.prog w).andThen fun v w' => .ok (.value v) w' := @run_callFunc_extern Tryd.prog 74 _ elemVF Tryd.func74 (by kernel_rfl) (by kernel_rfl) (by kernel_rfl) (by kernel_rfl) args w
theorem ex_set (args : Array Value) (w : World) : (callFunc 75 args).run Tryd.prog w = ((setF args).run Tryd.prog w).andThen fun v w' => .ok (.value v) w' := @run_callFunc_extern Tryd.prog 75 _ setF Tryd.func75 (by kernel_rfl) (by kernel_rfl) (by kernel_rfl) (by kernel_rfl) args w

theorem froz_keep {w w' : World} {D b o : Nat} (hb : Below D w w') (h : w.frozen? ⟨b, o, none⟩ = false) (hl : b < D) : w'.frozen? ⟨b, o, none⟩ = false := by
  have := hb.block b hl
  simp only [World.frozen?, this] at h ⊢
  exact h

set_option maxHeartbeats 4000000 in
/-- errors.as at a refusal. -/
theorem asR_any (c : Int) (ab ao tb to : Nat) (old : Value) (w : World) (ha : w.cell? ⟨ab, ao, none⟩ = some (.pointer (some ⟨tb, to, none⟩))) (ht : w.cell? ⟨tb, to, none⟩ = some old) (hf : w.frozen? ⟨tb, to, none⟩ = false) :
    Calls Tryd.prog 66 #[.iface 87 (.int .i64 c), .iface 89 (.pointer (some ⟨tb, to, none⟩)), valP ⟨ab, ao, none⟩, hanV 87] w fun e w' => e = .returned (.bool true) ∧ ∃ W, Below w.heap.size w W ∧ w' = W.setCell ⟨tb, to, none⟩ (.int .i64 c) := by
  have B1 := box_below w (valO ⟨ab, ao, none⟩)
  have A1 := cell_keep B1 ha (cell_lt ha)
  have B2 := below_step B1 (box_below (w.alloc (valO ⟨ab, ao, none⟩)) (.cells #[.int .i64 c] 87))
  have e1 := ex_typeOf
  have e2 := ex_asgn
  have e3 := ex_elemV
  have e4 := ex_unp
  have e5 := ex_set
  have t1 := er_typeOf
  have m1 := as_mAsgn
  have m2 := as_asgnR
  have m3 := as_elemV ⟨ab, ao, none⟩ ⟨tb, to, none⟩ (w.alloc (valO ⟨ab, ao, none⟩)) A1
  have m4 := as_unpE c (w.alloc (valO ⟨ab, ao, none⟩))
  have m5 := as_set ⟨tb, to, none⟩ ⟨w.heap.size + 1, 0, none⟩ c old ((w.alloc (valO ⟨ab, ao, none⟩)).alloc (.cells #[.int .i64 c] 87)) (by rw [World.cell?_alloc_at _ _ _ _ (by simp)]; rfl) (cell_keep B2 ht (cell_lt ht)) (froz_keep B2 hf (cell_lt ht))
  go_enter Tryd.func66, Tryd.ntmps66
  go_wp2
  refine wp_loop_rounds 1 ?_
  rw [rounds_succ]
  go_wp2
  go_ret
  exact ⟨rfl, _, B2, rfl⟩

set_option maxHeartbeats 4000000 in
/-- errors.as at a fault that wraps a refusal. -/
theorem asF_any (n c : Int) (ab ao tb to : Nat) (old : Value) (w : World) (ha : w.cell? ⟨ab, ao, none⟩ = some (.pointer (some ⟨tb, to, none⟩))) (ht : w.cell? ⟨tb, to, none⟩ = some old) (hf : w.frozen? ⟨tb, to, none⟩ = false) :
    Calls Tryd.prog 66 #[.iface 110 (.agg #[.int .i64 n, .iface 87 (.int .i64 c)]), .iface 89 (.pointer (some ⟨tb, to, none⟩)), valP ⟨ab, ao, none⟩, hanV 87] w fun e w' => e = .returned (.bool true) ∧ ∃ W, Below w.heap.size w W ∧ w' = W.setCell ⟨tb, to, none⟩ (.int .i64 c) := by
  have B1 := box_below w (valO ⟨ab, ao, none⟩)
  have A1 := heap_at w (valO ⟨ab, ao, none⟩)
  have e1 := ex_typeOf
  have e2 := ex_asgn
  have e3 := ex_elemV
  have e4 := ex_unp
  have e5 := ex_set
  have t1 := er_typeOf
  have t2 := er_typeOfF
  have m1 := as_mAsgn
  have m2 := as_asgnR
  have m6 := as_asgnF
  have n1 := as_noAsF
  have n5 := er_hasUnF
  have mU := er_mUn
  go_enter Tryd.func66, Tryd.ntmps66
  go_wp2
  refine wp_loop_rounds 2 ?_
  rw [rounds_succ]
  generalize w.alloc (valO ⟨ab, ao, none⟩) = w0 at A1 B1 ⊢
  have HB1 : Hid (Below w.heap.size w w0) := B1
  have hsz : w.heap.size < w0.heap.size := (Array.getElem?_eq_some_iff.1 A1).1
  clear B1
  go_wp2_with (go_at_call 110; refine (unwrap_any _ _ _).mono ?_; rintro e w1 ⟨rfl, bb⟩)
  rw [rounds_succ]
  have B2 := below_step HB1.out bb
  have c0 : w1.cell? ⟨w.heap.size, 0, none⟩ = some (.pointer (some ⟨1, 89, none⟩)) := cell_keep bb (by simp [World.cell?, A1]) hsz
  have c1 : w1.cell? ⟨w.heap.size, 1, none⟩ = some (.pointer (some ⟨ab, ao, none⟩)) := cell_keep bb (by simp [World.cell?, A1]) hsz
  have c2 : w1.cell? ⟨w.heap.size, 2, none⟩ = some (.int .u64 150) := cell_keep bb (by simp [World.cell?, A1]) hsz
  have a1 := cell_keep B2 ha (cell_lt ha)
  have t1' := cell_keep B2 ht (cell_lt ht)
  have f1 := froz_keep B2 hf (cell_lt ht)
  have B3 := box_below w1 (.cells #[.int .i64 c] 87)
  have m3 := as_elemV ⟨ab, ao, none⟩ ⟨tb, to, none⟩ w1 a1
  have m4 := as_unpE c w1
  have m5 := as_set ⟨tb, to, none⟩ ⟨w1.heap.size, 0, none⟩ c old (w1.alloc (.cells #[.int .i64 c] 87)) (by rw [World.cell?_alloc_at _ _ _ _ (by simp)]; rfl) (cell_keep B3 t1' (cell_lt t1')) (froz_keep B3 f1 (cell_lt t1'))
  have HE : Hid (Below w.heap.size w (w1.alloc (.cells #[.int .i64 c] 87))) := below_step B2 B3
  clear B2 B3 bb ha ht hf a1 t1' f1 A1 HB1 hsz
  go_wp2
  go_ret
  exact ⟨rfl, _, HE.out, rfl⟩

/-- An error that is a refusal, or a fault that wraps one. -/
def ErrV (v : Value) (c : Int) : Prop := v = refV c ∨ ∃ n : Int, v = fltV n c

theorem as_any (v : Value) (c : Int) (hv : ErrV v c) (ab ao tb to : Nat) (old : Value) (w : World) (ha : w.cell? ⟨ab, ao, none⟩ = some (.pointer (some ⟨tb, to, none⟩))) (ht : w.cell? ⟨tb, to, none⟩ = some old) (hf : w.frozen? ⟨tb, to, none⟩ = false) :
    Calls Tryd.prog 66 #[v, .iface 89 (.pointer (some ⟨tb, to, none⟩)), valP ⟨ab, ao, none⟩, hanV 87] w fun e w' => e = .returned (.bool true) ∧ ∃ W, Below w.heap.size w W ∧ w' = W.setCell ⟨tb, to, none⟩ (.int .i64 c) := by
  rcases hv with rfl | ⟨n, rfl⟩
  · exact asR_any c ab ao tb to old w ha ht hf
  · exact asF_any n c ab ao tb to old w ha ht hf

end Go.Proofs.YteblffhbennpnaaDoor
