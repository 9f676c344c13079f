import Derived.Test.YtiiipclglngdhaaGreatDoorQ00Box
import Derived.Test.YtiiipclglngdhaaGreatDoorQ06Errs
import Derived.Deep.RegionWith
namespace Go.Proofs.YtiiipclglngdhaaGreatDoor
set_option maxHeartbeats 4000000
open Go.RowKit Go.Extern.Stop Go.Stop Go.Extern
set_option linter.unusedVariables false
theorem ex_typeOf (args : Array Value) (w : World) : (callFunc 230 args).run Tryz.prog w = ((Extern.ReflectliteType.typeOf args).run Tryz.prog w).andThen fun v w' => .ok (.value v) w' := @run_callFunc_extern Tryz.prog 230 _ Extern.ReflectliteType.typeOf Tryz.func230 (by kernel_rfl) (by kernel_rfl) (by kernel_rfl) (by kernel_rfl) args w
theorem ex_unp (args : Array Value) (w : World) : (callFunc 212 args).run Tryz.prog w = ((unpF args).run Tryz.prog w).andThen fun v w' => .ok (.value v) w' := @run_callFunc_extern Tryz.prog 212 _ unpF Tryz.func212 (by kernel_rfl) (by kernel_rfl) (by kernel_rfl) (by kernel_rfl) args w
theorem ex_type (args : Array Value) (w : World) : (callFunc 213 args).run Tryz.prog w = ((typeF args).run Tryz.prog w).andThen fun v w' => .ok (.value v) w' := @run_callFunc_extern Tryz.prog 213 _ typeF Tryz.func213 (by kernel_rfl) (by kernel_rfl) (by kernel_rfl) (by kernel_rfl) args w
theorem ex_isNil (args : Array Value) (w : World) : (callFunc 214 args).run Tryz.prog w = ((isNilF args).run Tryz.prog w).andThen fun v w' => .ok (.value v) w' := @run_callFunc_extern Tryz.prog 214 _ isNilF Tryz.func214 (by kernel_rfl) (by kernel_rfl) (by kernel_rfl) (by kernel_rfl) args w
theorem ex_kind (args : Array Value) (w : World) : (callFunc 258 args).run Tryz.prog w = ((kindF args).run Tryz.prog w).andThen fun v w' => .ok (.value v) w' := @run_callFunc_extern Tryz.prog 258 _ kindF Tryz.func258 (by kernel_rfl) (by kernel_rfl) (by kernel_rfl) (by kernel_rfl) args w
theorem ex_elemT (args : Array Value) (w : World) : (callFunc 276 args).run Tryz.prog w = ((elemTF args).run Tryz.prog w).andThen fun v w' => .ok (.value v) w' := @run_callFunc_extern Tryz.prog 276 _ elemTF Tryz.func276 (by kernel_rfl) (by kernel_rfl) (by kernel_rfl) (by kernel_rfl) args w
theorem ex_impl (args : Array Value) (w : World) : (callFunc 277 args).run Tryz.prog w = ((implF args).run Tryz.prog w).andThen fun v w' => .ok (.value v) w' := @run_callFunc_extern Tryz.prog 277 _ implF Tryz.func277 (by kernel_rfl) (by kernel_rfl) (by kernel_rfl) (by kernel_rfl) args w
theorem ex_asgn (args : Array Value) (w : World) : (callFunc 274 args).run Tryz.prog w = ((asgnF args).run Tryz.prog w).andThen fun v w' => .ok (.value v) w' := @run_callFunc_extern Tryz.prog 274 _ asgnF Tryz.func274 (by kernel_rfl) (by kernel_rfl) (by kernel_rfl) (by kernel_rfl) args w
theorem ex_elemV (args : Array Value) (w : World) : (callFunc 231 args).run Tryz.prog w = ((elemVF args).run Tryz.prog w).andThen fun v w' => .ok (.value v) w' := @run_callFunc_extern Tryz.prog 231 _ elemVF Tryz.func231 (by kernel_rfl) (by kernel_rfl) (by kernel_rfl) (by kernel_rfl) args w
theorem ex_set (args : Array Value) (w : World) : (callFunc 232 args).run Tryz.prog w = ((setF args).run Tryz.prog w).andThen fun v w' => .ok (.value v) w' := @run_callFunc_extern Tryz.prog 232 _ setF Tryz.func232 (by kernel_rfl) (by kernel_rfl) (by kernel_rfl) (by kernel_rfl) args w
theorem froz_keep {w w' : World} {D b o : Nat} (hb : Below D w w') (h : w.frozen? ⟨b, o, none⟩ = false) (hl : b < D) : w'.frozen? ⟨b, o, none⟩ = false := by
 have := hb.block b hl
 simp only [World.frozen?, this] at h ⊢
 exact h
theorem asR_any (c : Int) (ab ao tb tq : Nat) (old : Value) (w : World) (ha : w.cell? ⟨ab, ao, none⟩ = some (.pointer (some ⟨tb, tq, none⟩))) (ht : w.cell? ⟨tb, tq, none⟩ = some old) (hf : w.frozen? ⟨tb, tq, none⟩ = false) :
    Calls Tryz.prog 215 #[.iface 216 (.int .i64 c), .iface 218 (.pointer (some ⟨tb, tq, none⟩)), valP ⟨ab, ao, none⟩, hanV 216] w fun e w' => e = .returned (.bool true) ∧ ∃ W, Below w.heap.size w W ∧ w' = W.setCell ⟨tb, tq, none⟩ (.int .i64 c) := by
 have B1 := box_below w (valO ⟨ab, ao, none⟩)
 have A1 := cell_keep B1 ha (cell_lt ha)
 have B2 := below_step B1 (box_below (w.alloc (valO ⟨ab, ao, none⟩)) (.cells #[.int .i64 c] 216))
 have e1 := ex_typeOf
 have e2 := ex_asgn
 have e3 := ex_elemV
 have e4 := ex_unp
 have e5 := ex_set
 have t1 := er_typeOf
 have m1 := as_mAsgn
 have m2 := as_asgnR
 have m3 := as_elemV ⟨ab, ao, none⟩ ⟨tb, tq, none⟩ (w.alloc (valO ⟨ab, ao, none⟩)) A1
 have m4 := as_unpE c (w.alloc (valO ⟨ab, ao, none⟩))
 have m5 := as_set ⟨tb, tq, none⟩ ⟨w.heap.size + 1, 0, none⟩ c old ((w.alloc (valO ⟨ab, ao, none⟩)).alloc (.cells #[.int .i64 c] 216)) (by rw [World.cell?_alloc_at _ _ _ _ (by simp)]; rfl) (cell_keep B2 ht (cell_lt ht)) (froz_keep B2 hf (cell_lt ht))
 go_enter Tryz.func215, Tryz.ntmps215
 go_wp2
 refine wp_loop_rounds 1 ?_
 rw [rounds_succ]
 go_wp2
 go_ret
 exact ⟨rfl, _, B2, rfl⟩
theorem asF_any (n c : Int) (ab ao tb tq : Nat) (old : Value) (w : World) (ha : w.cell? ⟨ab, ao, none⟩ = some (.pointer (some ⟨tb, tq, none⟩))) (ht : w.cell? ⟨tb, tq, none⟩ = some old) (hf : w.frozen? ⟨tb, tq, none⟩ = false) :
    Calls Tryz.prog 215 #[.iface 249 (.agg #[.int .i64 n, .iface 216 (.int .i64 c)]), .iface 218 (.pointer (some ⟨tb, tq, none⟩)), valP ⟨ab, ao, none⟩, hanV 216] w fun e w' => e = .returned (.bool true) ∧ ∃ W, Below w.heap.size w W ∧ w' = W.setCell ⟨tb, tq, none⟩ (.int .i64 c) := by
 have B1 := box_below w (valO ⟨ab, ao, none⟩)
 have A1 := heap_at w (valO ⟨ab, ao, none⟩)
 have e1 := ex_typeOf
 have e2 := ex_asgn
 have e3 := ex_elemV
 have e4 := ex_unp
 have e5 := ex_set
 have t1 := er_typeOf
 have t2 := er_typeOfF
 have m1 := as_mAsgn
 have m2 := as_asgnR
 have m6 := as_asgnF
 have n1 := as_noAsF
 have n5 := er_hasUnF
 have mU := er_mUn
 go_enter Tryz.func215, Tryz.ntmps215
 go_wp2
 refine wp_loop_rounds 2 ?_
 rw [rounds_succ]
 generalize w.alloc (valO ⟨ab, ao, none⟩) = w0 at A1 B1 ⊢
 have HB1 : Hid (Below w.heap.size w w0) := B1
 have hsz : w.heap.size < w0.heap.size := (Array.getElem?_eq_some_iff.1 A1).1
 clear B1
 go_wp2_with (go_at_call 272; refine (unwrap_any _ _ _).mono ?_; rintro e w1 ⟨rfl, bb⟩)
 rw [rounds_succ]
 have B2 := below_step HB1.out bb
 have c0 : w1.cell? ⟨w.heap.size, 0, none⟩ = some (.pointer (some ⟨1, 218, none⟩)) := cell_keep bb (by simp [World.cell?, A1]) hsz
 have c1 : w1.cell? ⟨w.heap.size, 1, none⟩ = some (.pointer (some ⟨ab, ao, none⟩)) := cell_keep bb (by simp [World.cell?, A1]) hsz
 have c2 : w1.cell? ⟨w.heap.size, 2, none⟩ = some (.int .u64 150) := cell_keep bb (by simp [World.cell?, A1]) hsz
 have a1 := cell_keep B2 ha (cell_lt ha)
 have t1' := cell_keep B2 ht (cell_lt ht)
 have f1 := froz_keep B2 hf (cell_lt ht)
 have B3 := box_below w1 (.cells #[.int .i64 c] 216)
 have m3 := as_elemV ⟨ab, ao, none⟩ ⟨tb, tq, none⟩ w1 a1
 have m4 := as_unpE c w1
 have m5 := as_set ⟨tb, tq, none⟩ ⟨w1.heap.size, 0, none⟩ c old (w1.alloc (.cells #[.int .i64 c] 216)) (by rw [World.cell?_alloc_at _ _ _ _ (by simp)]; rfl) (cell_keep B3 t1' (cell_lt t1')) (froz_keep B3 f1 (cell_lt t1'))
 have HE : Hid (Below w.heap.size w (w1.alloc (.cells #[.int .i64 c] 216))) := below_step B2 B3
 clear B2 B3 bb ha ht hf a1 t1' f1 A1 HB1 hsz
 go_wp2
 go_ret
 exact ⟨rfl, _, HE.out, rfl⟩
def ErrV (v : Value) (c : Int) : Prop := v = refV c ∨ ∃ n : Int, v = fltV n c
theorem as_any (v : Value) (c : Int) (hv : ErrV v c) (ab ao tb tq : Nat) (old : Value) (w : World) (ha : w.cell? ⟨ab, ao, none⟩ = some (.pointer (some ⟨tb, tq, none⟩))) (ht : w.cell? ⟨tb, tq, none⟩ = some old) (hf : w.frozen? ⟨tb, tq, none⟩ = false) :
    Calls Tryz.prog 215 #[v, .iface 218 (.pointer (some ⟨tb, tq, none⟩)), valP ⟨ab, ao, none⟩, hanV 216] w fun e w' => e = .returned (.bool true) ∧ ∃ W, Below w.heap.size w W ∧ w' = W.setCell ⟨tb, tq, none⟩ (.int .i64 c) := by
 rcases hv with rfl | ⟨n, rfl⟩
 ·exact asR_any c ab ao tb tq old w ha ht hf
 ·exact asF_any n c ab ao tb tq old w ha ht hf
theorem asWhole_any (v : Value) (c : Int) (hv : ErrV v c) (tb tq : Nat) (old : Value) (w : World) (hh : Hold w) (ht : w.cell? ⟨tb, tq, none⟩ = some old) (hf : w.frozen? ⟨tb, tq, none⟩ = false) :
    Calls Tryz.prog 181 #[v, .iface 218 (.pointer (some ⟨tb, tq, none⟩))] w fun e w' => e = .returned (.bool true) ∧ ∃ W, Below w.heap.size w W ∧ w' = W.setCell ⟨tb, tq, none⟩ (.int .i64 c) := by
 have B1 := box_below w (.cells #[.pointer (some ⟨tb, tq, none⟩)] 218)
 have B2 := below_step B1 (box_below (w.alloc (.cells #[.pointer (some ⟨tb, tq, none⟩)] 218)) (valO ⟨w.heap.size, 0, none⟩))
 have G2 : ((w.alloc (.cells #[.pointer (some ⟨tb, tq, none⟩)] 218)).alloc (valO ⟨w.heap.size, 0, none⟩)).cell? ⟨0, 0, none⟩ = some (hanV 189) := hh.goes B2
 have P2 : ((w.alloc (.cells #[.pointer (some ⟨tb, tq, none⟩)] 218)).alloc (valO ⟨w.heap.size, 0, none⟩)).cell? ⟨w.heap.size, 0, none⟩ = some (.pointer (some ⟨tb, tq, none⟩)) := by
  rw [World.cell?_alloc_lt _ _ ⟨w.heap.size, 0, none⟩ (by simp)]; simp
 have HC : Hid (Calls Tryz.prog 215 #[v, .iface 218 (.pointer (some ⟨tb, tq, none⟩)), valP ⟨w.heap.size, 0, none⟩, hanV 216] ((w.alloc (.cells #[.pointer (some ⟨tb, tq, none⟩)] 218)).alloc (valO ⟨w.heap.size, 0, none⟩)) fun e w' => e = .returned (.bool true) ∧ ∃ W, Below w.heap.size w W ∧ w' = W.setCell ⟨tb, tq, none⟩ (.int .i64 c)) :=
  (as_any v c hv w.heap.size 0 tb tq old _ P2 (cell_keep B2 ht (cell_lt ht)) (froz_keep B2 hf (cell_lt ht))).mono fun e w' ⟨h1, W, h2, h3⟩ => ⟨h1, W, below_step B2 h2, h3⟩
 have m8 := as_isNil ⟨w.heap.size, 0, none⟩ ⟨tb, tq, none⟩ _ P2
 obtain ⟨T, x, rfl⟩ : ∃ T x, v = .iface T x := by
  rcases hv with rfl | ⟨n, rfl⟩
  ·exact ⟨_, _, rfl⟩
  ·exact ⟨_, _, rfl⟩
 clear hv hh ht hf B1 B2
 have e1 := ex_unp
 have e2 := ex_type
 have e3 := ex_kind
 have e4 := ex_isNil
 have e5 := ex_elemT
 have e6 := ex_impl
 have m1 := as_unpP
 have m2 := as_type
 have m3 := as_mKind
 have m4 := as_kindP
 have m5 := as_kindE
 have m6 := as_mElem
 have m7 := as_elemT
 have m9 := as_mImpl
 have m10 := as_impl
 go_enter Tryz.func181, Tryz.ntmps181
 go_wp2_with (go_at_call 215; refine HC.out.mono ?_; rintro e w' ⟨rfl, W, h2, h3⟩)
 go_ret
 exact ⟨rfl, W, h2, rfl⟩
theorem implCodeOf_any (v : Value) (c : Int) (hv : ErrV v c) (w : World) (hh : Hold w) :
    Calls Tryz.prog 146 #[v] w fun e w' => e = .returned (.int .i64 c) ∧ Below w.heap.size w w' := by
 have bx := box_below w (.cells #[.int .i64 0] 216)
 have HC := asWhole_any v c hv w.heap.size 0 (.int .i64 0) (w.alloc (.cells #[.int .i64 0] 216)) (hh.goes bx) (by simp) (by simp)
 clear hh hv
 go_enter Tryz.func146, Tryz.ntmps146
 go_wp2_with fail
 refine HC.mono ?_
 rintro e w' ⟨rfl, W, h2, rfl⟩
 have A1 := heap_at w (.cells #[.int .i64 0] 216)
 have A2 : W.heap[w.heap.size]? = some (.cells #[.int .i64 0] 216) := (h2.block _ (Array.getElem?_eq_some_iff.1 A1).1).trans A1
 have hc : (W.setCell ⟨w.heap.size, 0, none⟩ (.int .i64 c)).cell? ⟨w.heap.size, 0, none⟩ = some (.int .i64 c) := by
  have := heap_setCell_same W w.heap.size 0 _ _ (.int .i64 c) A2
  simp [World.cell?, this]
 have HB : Hid (Below w.heap.size w (W.setCell ⟨w.heap.size, 0, none⟩ (.int .i64 c))) := below_setC (below_step bx h2) (Nat.le_refl _)
 clear A1 A2
 clear HC h2 bx
 generalize W.setCell ⟨w.heap.size, 0, none⟩ (.int .i64 c) = V at hc HB ⊢
 go_wp2
 go_ret
 exact ⟨rfl, HB.out⟩
theorem implCodeOf_nil (w : World) : Calls Tryz.prog 146 #[.nilIface] w fun e w' => e = .returned (.int .i64 0) ∧ Below w.heap.size w w' := by
 have bx := box_below w (.cells #[.int .i64 0] 216)
 go_enter Tryz.func146, Tryz.ntmps146
 go_wp2_with go_in
 go_ret
 exact ⟨rfl, bx⟩
end Go.Proofs.YtiiipclglngdhaaGreatDoor
