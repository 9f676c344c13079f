import Derived.Test.YthnfkacboijneaaGreatDoorP23Impl12
namespace Go.Proofs.YthnfkacboijneaaGreatDoor
open Go.RowKit Go.Extern.Stop Go.Stop Go.Extern
set_option linter.unusedVariables false
set_option maxHeartbeats 4000000 in
theorem asWhole_any (v : Value) (c : Int) (hv : ErrV v c) (tb to : Nat) (old : Value) (w : World) (hh : Hold w) (ht : w.cell? ⟨tb, to, none⟩ = some old) (hf : w.frozen? ⟨tb, to, none⟩ = false) :
    Calls Tryz.prog 229 #[v, .iface 252 (.pointer (some ⟨tb, to, none⟩))] w fun e w' => e = .returned (.bool true) ∧ ∃ W, Below w.heap.size w W ∧ w' = W.setCell ⟨tb, to, none⟩ (.int .i64 c) := by
 have B1 := box_below w (.cells #[.pointer (some ⟨tb, to, none⟩)] 252)
 have B2 := below_step B1 (box_below (w.alloc (.cells #[.pointer (some ⟨tb, to, none⟩)] 252)) (valO ⟨w.heap.size, 0, none⟩))
 have G2 : ((w.alloc (.cells #[.pointer (some ⟨tb, to, none⟩)] 252)).alloc (valO ⟨w.heap.size, 0, none⟩)).cell? ⟨0, 0, none⟩ = some (hanV 214) := hh.to B2
 have P2 : ((w.alloc (.cells #[.pointer (some ⟨tb, to, none⟩)] 252)).alloc (valO ⟨w.heap.size, 0, none⟩)).cell? ⟨w.heap.size, 0, none⟩ = some (.pointer (some ⟨tb, to, none⟩)) := by
  rw [World.cell?_alloc_lt _ _ ⟨w.heap.size, 0, none⟩ (by simp)]; simp
 have HC : Hid (Calls Tryz.prog 267 #[v, .iface 252 (.pointer (some ⟨tb, to, none⟩)), valP ⟨w.heap.size, 0, none⟩, hanV 250] ((w.alloc (.cells #[.pointer (some ⟨tb, to, none⟩)] 252)).alloc (valO ⟨w.heap.size, 0, none⟩)) fun e w' => e = .returned (.bool true) ∧ ∃ W, Below w.heap.size w W ∧ w' = W.setCell ⟨tb, to, none⟩ (.int .i64 c)) :=
  (as_any v c hv w.heap.size 0 tb to old _ P2 (cell_keep B2 ht (cell_lt ht)) (froz_keep B2 hf (cell_lt ht))).mono fun e w' ⟨h1, W, h2, h3⟩ => ⟨h1, W, below_step B2 h2, h3⟩
 have m8 := as_isNil ⟨w.heap.size, 0, none⟩ ⟨tb, to, none⟩ _ P2
 obtain ⟨T, x, rfl⟩ : ∃ T x, v = .iface T x := by
  rcases hv with rfl | ⟨n, rfl⟩
  ·exact ⟨_, _, rfl⟩
  ·exact ⟨_, _, rfl⟩
 clear hv hh ht hf B1 B2
 have e1 := ex_unp
 have e2 := ex_type
 have e3 := ex_kind
 have e4 := ex_isNil
 have e5 := ex_elemT
 have e6 := ex_impl
 have m1 := as_unpP
 have m2 := as_type
 have m3 := as_mKind
 have m4 := as_kindP
 have m5 := as_kindE
 have m6 := as_mElem
 have m7 := as_elemT
 have m9 := as_mImpl
 have m10 := as_impl
 go_enter Tryz.func229, Tryz.ntmps229
 go_wp2_with (go_at_call 267; refine HC.out.mono ?_; rintro e w' ⟨rfl, W, h2, h3⟩)
 go_ret
 exact ⟨rfl, W, h2, rfl⟩
set_option maxHeartbeats 4000000 in
theorem implCodeOf_any (v : Value) (c : Int) (hv : ErrV v c) (w : World) (hh : Hold w) :
    Calls Tryz.prog 179 #[v] w fun e w' => e = .returned (.int .i64 c) ∧ Below w.heap.size w w' := by
 have bx := box_below w (.cells #[.int .i64 0] 250)
 have HC := asWhole_any v c hv w.heap.size 0 (.int .i64 0) (w.alloc (.cells #[.int .i64 0] 250)) (hh.to bx) (by simp) (by simp)
 clear hh hv
 go_enter Tryz.func179, Tryz.ntmps179
 go_wp2_with fail
 refine HC.mono ?_
 rintro e w' ⟨rfl, W, h2, rfl⟩
 have A1 := heap_at w (.cells #[.int .i64 0] 250)
 have A2 : W.heap[w.heap.size]? = some (.cells #[.int .i64 0] 250) := (h2.block _ (Array.getElem?_eq_some_iff.1 A1).1).trans A1
 have hc : (W.setCell ⟨w.heap.size, 0, none⟩ (.int .i64 c)).cell? ⟨w.heap.size, 0, none⟩ = some (.int .i64 c) := by
  have := heap_setCell_same W w.heap.size 0 _ _ (.int .i64 c) A2
  simp [World.cell?, this]
 have HB : Hid (Below w.heap.size w (W.setCell ⟨w.heap.size, 0, none⟩ (.int .i64 c))) := below_setC (below_step bx h2) (Nat.le_refl _)
 clear A1 A2
 clear HC h2 bx
 generalize W.setCell ⟨w.heap.size, 0, none⟩ (.int .i64 c) = V at hc HB ⊢
 go_wp2
 go_ret
 exact ⟨rfl, HB.out⟩
set_option maxHeartbeats 4000000 in
theorem implCodeOf_nil (w : World) : Calls Tryz.prog 179 #[.nilIface] w fun e w' => e = .returned (.int .i64 0) ∧ Below w.heap.size w w' := by
 have bx := box_below w (.cells #[.int .i64 0] 250)
 go_enter Tryz.func179, Tryz.ntmps179
 go_wp2_with go_in
 go_ret
 exact ⟨rfl, bx⟩
end Go.Proofs.YthnfkacboijneaaGreatDoor
