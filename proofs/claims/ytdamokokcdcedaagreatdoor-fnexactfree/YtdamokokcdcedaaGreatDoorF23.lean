import Derived.Test.YtdamokokcdcedaaGreatDoorF00Box
import Derived.Test.YtdamokokcdcedaaGreatDoorF06
namespace Go.Proofs.YtdamokokcdcedaaGreatDoor
set_option maxHeartbeats 4000000
open Go.RowKit Go.Extern.Stop Go.Stop Go.Extern
set_option linter.unusedVariables false
theorem ex_typeOf (args : Array Value) (w : World) : (callFunc 279 args).run Tryz.prog w = ((Extern.ReflectliteType.typeOf args).run Tryz.prog w).andThen fun v w' => .ok (.value v) w' := @run_callFunc_extern Tryz.prog 279 _ Extern.ReflectliteType.typeOf Tryz.func279 (by kernel_rfl) (by kernel_rfl) (by kernel_rfl) (by kernel_rfl) args w
theorem ex_unp (args : Array Value) (w : World) : (callFunc 266 args).run Tryz.prog w = ((unpF args).run Tryz.prog w).andThen fun v w' => .ok (.value v) w' := @run_callFunc_extern Tryz.prog 266 _ unpF Tryz.func266 (by kernel_rfl) (by kernel_rfl) (by kernel_rfl) (by kernel_rfl) args w
theorem ex_type (args : Array Value) (w : World) : (callFunc 267 args).run Tryz.prog w = ((typeF args).run Tryz.prog w).andThen fun v w' => .ok (.value v) w' := @run_callFunc_extern Tryz.prog 267 _ typeF Tryz.func267 (by kernel_rfl) (by kernel_rfl) (by kernel_rfl) (by kernel_rfl) args w
theorem ex_isNil (args : Array Value) (w : World) : (callFunc 268 args).run Tryz.prog w = ((isNilF args).run Tryz.prog w).andThen fun v w' => .ok (.value v) w' := @run_callFunc_extern Tryz.prog 268 _ isNilF Tryz.func268 (by kernel_rfl) (by kernel_rfl) (by kernel_rfl) (by kernel_rfl) args w
theorem ex_kind (args : Array Value) (w : World) : (callFunc 306 args).run Tryz.prog w = ((kindF args).run Tryz.prog w).andThen fun v w' => .ok (.value v) w' := @run_callFunc_extern Tryz.prog 306 _ kindF Tryz.func306 (by kernel_rfl) (by kernel_rfl) (by kernel_rfl) (by kernel_rfl) args w
theorem ex_elemT (args : Array Value) (w : World) : (callFunc 322 args).run Tryz.prog w = ((elemTF args).run Tryz.prog w).andThen fun v w' => .ok (.value v) w' := @run_callFunc_extern Tryz.prog 322 _ elemTF Tryz.func322 (by kernel_rfl) (by kernel_rfl) (by kernel_rfl) (by kernel_rfl) args w
theorem ex_impl (args : Array Value) (w : World) : (callFunc 323 args).run Tryz.prog w = ((implF args).run Tryz.prog w).andThen fun v w' => .ok (.value v) w' := @run_callFunc_extern Tryz.prog 323 _ implF Tryz.func323 (by kernel_rfl) (by kernel_rfl) (by kernel_rfl) (by kernel_rfl) args w
theorem ex_asgn (args : Array Value) (w : World) : (callFunc 320 args).run Tryz.prog w = ((asgnF args).run Tryz.prog w).andThen fun v w' => .ok (.value v) w' := @run_callFunc_extern Tryz.prog 320 _ asgnF Tryz.func320 (by kernel_rfl) (by kernel_rfl) (by kernel_rfl) (by kernel_rfl) args w
theorem ex_elemV (args : Array Value) (w : World) : (callFunc 280 args).run Tryz.prog w = ((elemVF args).run Tryz.prog w).andThen fun v w' => .ok (.value v) w' := @run_callFunc_extern Tryz.prog 280 _ elemVF Tryz.func280 (by kernel_rfl) (by kernel_rfl) (by kernel_rfl) (by kernel_rfl) args w
theorem ex_set (args : Array Value) (w : World) : (callFunc 281 args).run Tryz.prog w = ((setF args).run Tryz.prog w).andThen fun v w' => .ok (.value v) w' := @run_callFunc_extern Tryz.prog 281 _ setF Tryz.func281 (by kernel_rfl) (by kernel_rfl) (by kernel_rfl) (by kernel_rfl) args w
theorem froz_keep {w w' : World} {D b o : Nat} (hb : Below D w w') (h : w.frozen? ⟨b, o, none⟩ = false) (hl : b < D) : w'.frozen? ⟨b, o, none⟩ = false := by
 have := hb.block b hl;simp only [World.frozen?, this] at h ⊢;exact h
theorem asR_any (c : Int) (ab ao tb tq : Nat) (old : Value) (w : World) (ha : w.cell? ⟨ab, ao, none⟩ = some (.pointer (some ⟨tb, tq, none⟩))) (ht : w.cell? ⟨tb, tq, none⟩ = some old) (hf : w.frozen? ⟨tb, tq, none⟩ = false) :
    Calls Tryz.prog 269 #[.iface 259 (nI c), .iface 261 (.pointer (some ⟨tb, tq, none⟩)), valP ⟨ab, ao, none⟩, hanV 259] w fun e w' => e = .returned (.bool true) ∧ ∃ W, Bl w W ∧ w' = W.setCell ⟨tb, tq, none⟩ (nI c) := by
 have b := box_below w (valO ⟨ab, ao, none⟩);have d := cell_keep b ha (cell_lt ha);have a := below_step b (box_below (w.alloc (valO ⟨ab, ao, none⟩)) (.cells #[nI c] 259));have e1 := ex_typeOf;have e2 := ex_asgn;have e3 := ex_elemV;have e4 := ex_unp;have e5 := ex_set;have t1 := er_typeOf;have m1 := as_mAsgn;have m2 := as_asgnR;have m3 := as_elemV ⟨ab, ao, none⟩ ⟨tb, tq, none⟩ (w.alloc (valO ⟨ab, ao, none⟩)) d;have m4 := as_unpE c (w.alloc (valO ⟨ab, ao, none⟩));have m5 := as_set ⟨tb, tq, none⟩ ⟨w.heap.size + 1, 0, none⟩ c old ((w.alloc (valO ⟨ab, ao, none⟩)).alloc (.cells #[nI c] 259)) (by rw [World.cell?_alloc_at _ _ _ _ (by simp)]; rfl) (cell_keep a ht (cell_lt ht)) (froz_keep a hf (cell_lt ht));go_enter Tryz.func269, Tryz.ntmps269;go_wp2;refine wp_loop_rounds 1 ?_;rw [rounds_succ];go_wp2;go_ret
 exact ⟨rfl, _, a, rfl⟩
theorem asF_any (n c : Int) (ab ao tb tq : Nat) (old : Value) (w : World) (ha : w.cell? ⟨ab, ao, none⟩ = some (.pointer (some ⟨tb, tq, none⟩))) (ht : w.cell? ⟨tb, tq, none⟩ = some old) (hf : w.frozen? ⟨tb, tq, none⟩ = false) :
    Calls Tryz.prog 269 #[.iface 284 (.agg #[nI n, .iface 259 (nI c)]), .iface 261 (.pointer (some ⟨tb, tq, none⟩)), valP ⟨ab, ao, none⟩, hanV 259] w fun e w' => e = .returned (.bool true) ∧ ∃ W, Bl w W ∧ w' = W.setCell ⟨tb, tq, none⟩ (nI c) := by
 have m := box_below w (valO ⟨ab, ao, none⟩);have g := heap_at w (valO ⟨ab, ao, none⟩);have e1 := ex_typeOf;have e2 := ex_asgn;have e3 := ex_elemV;have e4 := ex_unp;have e5 := ex_set;have t1 := er_typeOf;have t2 := er_typeOfF;have m1 := as_mAsgn;have m2 := as_asgnR;have m6 := as_asgnF;have n1 := as_noAsF;have n5 := er_hasUnF;have mU := er_mUn;go_enter Tryz.func269, Tryz.ntmps269;go_wp2;refine wp_loop_rounds 2 ?_;rw [rounds_succ];generalize w.alloc (valO ⟨ab, ao, none⟩) = w0 at g m ⊢;have i : Hid (Bl w w0) := m;have f : w.heap.size < w0.heap.size := (ltH g);clear m;go_wp2_with (go_at_call 318; refine (unwrap_any _ _ _).mono ?_; rintro e b ⟨rfl, k⟩)
 rw [rounds_succ];have j := below_step i.out k;have c0 : b.cell? ⟨w.heap.size, 0, none⟩ = some (.pointer (some ⟨2, 261, none⟩)) := cell_keep k (by simp [World.cell?, g]) f;have c1 : b.cell? ⟨w.heap.size, 1, none⟩ = some (.pointer (some ⟨ab, ao, none⟩)) := cell_keep k (by simp [World.cell?, g]) f;have c2 : b.cell? ⟨w.heap.size, 2, none⟩ = some (.int .u64 150) := cell_keep k (by simp [World.cell?, g]) f;have p := cell_keep j ha (cell_lt ha);have d := cell_keep j ht (cell_lt ht);have o := froz_keep j hf (cell_lt ht);have l := box_below b (.cells #[nI c] 259);have m3 := as_elemV ⟨ab, ao, none⟩ ⟨tb, tq, none⟩ b p;have m4 := as_unpE c b;have m5 := as_set ⟨tb, tq, none⟩ ⟨b.heap.size, 0, none⟩ c old (b.alloc (.cells #[nI c] 259)) (by rw [World.cell?_alloc_at _ _ _ _ (by simp)]; rfl) (cell_keep l d (cell_lt d)) (froz_keep l o (cell_lt d));have q : Hid (Bl w (b.alloc (.cells #[nI c] 259))) := below_step j l;clear j l k ha ht hf p d o g i f;go_wp2;go_ret
 exact ⟨rfl, _, q.out, rfl⟩
def ErrV (v : Value) (c : Int) : Prop := v = refV c ∨ ∃ n : Int, v = fltV n c
theorem as_any (v : Value) (c : Int) (hv : ErrV v c) (ab ao tb tq : Nat) (old : Value) (w : World) (ha : w.cell? ⟨ab, ao, none⟩ = some (.pointer (some ⟨tb, tq, none⟩))) (ht : w.cell? ⟨tb, tq, none⟩ = some old) (hf : w.frozen? ⟨tb, tq, none⟩ = false) :
    Calls Tryz.prog 269 #[v, .iface 261 (.pointer (some ⟨tb, tq, none⟩)), valP ⟨ab, ao, none⟩, hanV 259] w fun e w' => e = .returned (.bool true) ∧ ∃ W, Bl w W ∧ w' = W.setCell ⟨tb, tq, none⟩ (nI c) := by
 rcases hv with rfl | ⟨n, rfl⟩
 ·exact asR_any c ab ao tb tq old w ha ht hf
 ·exact asF_any n c ab ao tb tq old w ha ht hf
theorem asWhole_any (v : Value) (c : Int) (hv : ErrV v c) (tb tq : Nat) (old : Value) (w : World) (hh : Hold w) (ht : w.cell? ⟨tb, tq, none⟩ = some old) (hf : w.frozen? ⟨tb, tq, none⟩ = false) :
    Calls Tryz.prog 241 #[v, .iface 261 (.pointer (some ⟨tb, tq, none⟩))] w fun e b => e = .returned (.bool true) ∧ ∃ W, Bl w W ∧ b = W.setCell ⟨tb, tq, none⟩ (nI c) := by
 have g := box_below w (.cells #[.pointer (some ⟨tb, tq, none⟩)] 261);have a := below_step g (box_below (w.alloc (.cells #[.pointer (some ⟨tb, tq, none⟩)] 261)) (valO ⟨w.heap.size, 0, none⟩));have G2 : ((w.alloc (.cells #[.pointer (some ⟨tb, tq, none⟩)] 261)).alloc (valO ⟨w.heap.size, 0, none⟩)).cell? ⟨1, 0, none⟩ = some (hanV 242) := hh.goes a;have f : ((w.alloc (.cells #[.pointer (some ⟨tb, tq, none⟩)] 261)).alloc (valO ⟨w.heap.size, 0, none⟩)).cell? ⟨w.heap.size, 0, none⟩ = some (.pointer (some ⟨tb, tq, none⟩)) := by
  rw [World.cell?_alloc_lt _ _ ⟨w.heap.size, 0, none⟩ (by simp)]; simp
 have k : Hid (Calls Tryz.prog 269 #[v, .iface 261 (.pointer (some ⟨tb, tq, none⟩)), valP ⟨w.heap.size, 0, none⟩, hanV 259] ((w.alloc (.cells #[.pointer (some ⟨tb, tq, none⟩)] 261)).alloc (valO ⟨w.heap.size, 0, none⟩)) fun e b => e = .returned (.bool true) ∧ ∃ W, Bl w W ∧ b = W.setCell ⟨tb, tq, none⟩ (nI c)) :=
  (as_any v c hv w.heap.size 0 tb tq old _ f (cell_keep a ht (cell_lt ht)) (froz_keep a hf (cell_lt ht))).mono fun e b ⟨h1, W, d, i⟩ => ⟨h1, W, below_step a d, i⟩
 have m8 := as_isNil ⟨w.heap.size, 0, none⟩ ⟨tb, tq, none⟩ _ f;obtain ⟨T, x, rfl⟩ : ∃ T x, v = .iface T x := by
  rcases hv with rfl | ⟨n, rfl⟩
  ·exact ⟨_, _, rfl⟩
  ·exact ⟨_, _, rfl⟩
 clear hv hh ht hf g a;have e1 := ex_unp;have e2 := ex_type;have e3 := ex_kind;have e4 := ex_isNil;have e5 := ex_elemT;have e6 := ex_impl;have m1 := as_unpP;have m2 := as_type;have m3 := as_mKind;have m4 := as_kindP;have m5 := as_kindE;have m6 := as_mElem;have m7 := as_elemT;have m9 := as_mImpl;have j := as_impl;go_enter Tryz.func241, Tryz.ntmps241;go_wp2_with (go_at_call 269; refine k.out.mono ?_; rintro e b ⟨rfl, W, d, i⟩)
 go_ret
 exact ⟨rfl, W, d, rfl⟩
theorem implCodeOf_any (v : Value) (c : Int) (hv : ErrV v c) (w : World) (hh : Hold w) :
    Calls Tryz.prog 205 #[v] w fun e g => e = .returned (nI c) ∧ Bl w g := by
 have d := box_below w (.cells #[nI 0] 259);have f := asWhole_any v c hv w.heap.size 0 (nI 0) (w.alloc (.cells #[nI 0] 259)) (hh.goes d) (by simp) (by simp);clear hh hv;go_enter Tryz.func205, Tryz.ntmps205;go_wp2_with fail
 refine f.mono ?_;rintro e g ⟨rfl, W, b, rfl⟩;have a := heap_at w (.cells #[nI 0] 259);have j : W.heap[w.heap.size]? = some (.cells #[nI 0] 259) := (b.block _ (ltH a)).trans a;have k : (W.setCell ⟨w.heap.size, 0, none⟩ (nI c)).cell? ⟨w.heap.size, 0, none⟩ = some (nI c) := by
  have := heap_setCell_same W w.heap.size 0 _ _ (nI c) j;simp [World.cell?, this]
 have i : Hid (Bl w (W.setCell ⟨w.heap.size, 0, none⟩ (nI c))) := below_setC (below_step d b) (Nat.le_refl _);clear a j f b d;generalize W.setCell ⟨w.heap.size, 0, none⟩ (nI c) = V at k i ⊢;go_wp2;go_ret
 exact ⟨rfl, i.out⟩
theorem implCodeOf_nil (w : World) : Calls Tryz.prog 205 #[.nilIface] w fun e w' => e = .returned (nI 0) ∧ Bl w w' := by
 have a := box_below w (.cells #[nI 0] 259);go_enter Tryz.func205, Tryz.ntmps205;go_wp2_with go_in
 go_ret
 exact ⟨rfl, a⟩
end Go.Proofs.YtdamokokcdcedaaGreatDoor
