
/- CoreSmall. -/
import Derived.Test.YthbclkpmgcfdnaaGreatDoorCoreCopy
import Derived.Test.YthbclkpmgcfdnaaGreatDoorJOps22L8Done
import Derived.Test.YthbclkpmgcfdnaaGreatDoorJNexts3Door
import Derived.Test.YthbclkpmgcfdnaaGreatDoorJOwn516Lines4
/- The smallest functions of a core, of the program. Conditions: ops and states that are right. -/
namespace Go.Proofs.YthbclkpmgcfdnaaGreatDoor
open Go.ChangeShapes Go.WideShapes Go.ChangeAt Go.RowKit
set_option linter.unusedVariables false
theorem addr_in {o : OpD} (h : opOkD o = true) : 0 ≤ o.2.1 ∧ o.2.1 ≤ 31 := (op_parts h).2.1
set_option maxHeartbeats 400000 in
theorem implLine_u (o : OpD) (w : World) (h : opOkD o = true) : Calls Tryz.prog 110 #[.agg #[.int .i64 o.1, .int .i64 o.2.1, .int .i64 o.2.2.1, .int .i64 o.2.2.2]] w fun e w' => e = .returned (.int .i64 (opLine o)) ∧ Below w.heap.size w w' := by
  obtain ⟨h0, h1⟩ := addr_in h
  have HT : Hid (Int.tdiv o.2.1 2 = opLine o) := Int.tdiv_eq_ediv_of_nonneg h0
  have B := box_below w (.cells #[.int .i64 o.1, .int .i64 o.2.1, .int .i64 o.2.2.1, .int .i64 o.2.2.2] 54)
  go_enter Tryz.func110, Tryz.ntmps110
  go_wp2
  go_ret
  exact ⟨ret_int (by first | exact HT.out | rfl | (unfold opLine; omega)), B⟩
set_option maxHeartbeats 400000 in
theorem implWord_u (o : OpD) (w : World) (h : opOkD o = true) : Calls Tryz.prog 158 #[.agg #[.int .i64 o.1, .int .i64 o.2.1, .int .i64 o.2.2.1, .int .i64 o.2.2.2]] w fun e w' => e = .returned (.int .i64 (o.2.1 % 2)) ∧ Below w.heap.size w w' := by
  obtain ⟨h0, h1⟩ := addr_in h
  have HT : Hid (Int.tmod o.2.1 2 = o.2.1 % 2) := Int.tmod_eq_emod_of_nonneg h0
  have B := box_below w (.cells #[.int .i64 o.1, .int .i64 o.2.1, .int .i64 o.2.2.1, .int .i64 o.2.2.2] 54)
  go_enter Tryz.func158, Tryz.ntmps158
  go_wp2
  go_ret
  exact ⟨ret_int (by first | exact HT.out | rfl | omega), B⟩
theorem implWrites_u (o : OpD) (w : World) : Calls Tryz.prog 112 #[.agg #[.int .i64 o.1, .int .i64 o.2.1, .int .i64 o.2.2.1, .int .i64 o.2.2.2]] w fun e w' => e = .returned (.bool (opWr o)) ∧ Below w.heap.size w w' := by
  have e : opWr o = (opB o.1 o.2.1 o.2.2.1 o.2.2.2 && o.1 != 1) := by
    unfold opWr opOk opOkD
    congr 1
    by_cases h : o.1 = 1
    · simp [h]
    · simp [h]
  rw [e]
  exact implWrites_any o.1 o.2.1 o.2.2.1 o.2.2.2 w
theorem specWrites_u (o : OpD) (w : World) : Calls Tryz.prog 22 #[.agg #[.int .i64 o.1, .int .i64 o.2.1, .int .i64 o.2.2.1, .int .i64 o.2.2.2]] w fun e w' => e = .returned (.bool (opWr o)) ∧ Below w.heap.size w w' := by
  have e : opWr o = (opB o.1 o.2.1 o.2.2.1 o.2.2.2 && o.1 != 1) := by
    unfold opWr opOk opOkD
    congr 1
    by_cases h : o.1 = 1
    · simp [h]
    · simp [h]
  rw [e]
  exact specWrites_any o.1 o.2.1 o.2.2.1 o.2.2.2 w
set_option maxHeartbeats 400000 in
theorem implEvent_u (o : OpD) (w : World) : Calls Tryz.prog 161 #[.agg #[.int .i64 o.1, .int .i64 o.2.1, .int .i64 o.2.2.1, .int .i64 o.2.2.2]] w fun e w' => e = .returned (.int .i64 (if opWr o then 2 else 1)) ∧ Below w.heap.size w w' := by
  have HW : Hid (∀ W, Calls Tryz.prog 112 #[.agg #[.int .i64 o.1, .int .i64 o.2.1, .int .i64 o.2.2.1, .int .i64 o.2.2.2]] W fun e w' => e = .returned (.bool (opWr o)) ∧ Below W.heap.size W w') := fun W => implWrites_u o W
  generalize opWr o = y at HW ⊢
  have X := heap_at w (.cells #[.int .i64 o.1, .int .i64 o.2.1, .int .i64 o.2.2.1, .int .i64 o.2.2.2] 54)
  have B := box_below w (.cells #[.int .i64 o.1, .int .i64 o.2.1, .int .i64 o.2.2.1, .int .i64 o.2.2.2] 54)
  go_enter Tryz.func161, Tryz.ntmps161
  go_wp2_with fail
  refine (HW.out _).mono ?_
  rintro e w1 ⟨rfl, b1⟩
  cases y
  all_goals
    go_wp2
    go_ret
    exact ⟨rfl, below_step B b1⟩
set_option maxHeartbeats 400000 in
theorem implRequest_u (k : Int) (w : World) : Calls Tryz.prog 116 #[.int .i64 k] w fun e w' => e = .returned (.int .i64 (if k = 1 then 1 else 2)) ∧ w' = w := by
  by_cases h : k = 1
  · have h' : (k == 1) = true := by simp [h]
    rw [if_pos h]
    go_enter Tryz.func116, Tryz.ntmps116
    go_wp2
    go_ret
    exact ⟨rfl, rfl⟩
  · have h' : (k == 1) = false := by simp [h]
    rw [if_neg h]
    go_enter Tryz.func116, Tryz.ntmps116
    go_wp2
    go_ret
    exact ⟨rfl, rfl⟩
set_option maxHeartbeats 800000 in
theorem implAlone_u (us : List Value) (u : WayD) (w : World) (hh : Hold w) (h : wayR.rd w us u) (hs : betw u.2.1 0 3 = true) : Calls Tryz.prog 167 #[aggV us] w fun e w' => e = .returned (.bool (decide (2 ≤ u.2.1))) ∧ Below w.heap.size w w' := by
  obtain ⟨ad, cpw, rfl, i1, i2, k1, k2, k3⟩ := way_rd h
  change Calls Tryz.prog 167 #[.agg #[.int .i64 u.1, .int .i64 u.2.1, .slice ad u.2.2.length cpw]] w _
  have B := box_below w (.cells #[.int .i64 u.1, .int .i64 u.2.1, .slice ad u.2.2.length cpw] 30)
  have hl := hh.lt
  obtain ⟨c0, c1, c2, c3, c4, c5, c6, c7, c8, c9, c10, c11⟩ := (hh.to B).cells
  clear h k1 k2 k3
  generalize u.2.2.length = n at *
  generalize u.2.1 = s at *
  rcases state4 hs with rfl | rfl | rfl | rfl
  all_goals
    clear hs
    have HB : Hid _ := B
    clear B
    go_enter Tryz.func167, Tryz.ntmps167
    go_wp2
    go_ret
    exact ⟨rfl, HB.out⟩
theorem op_some {x : CoreD} (h0 : 0 ≤ x.2.2.1) (h1 : x.2.2.1 < x.2.1.length) : x.2.1[x.2.2.1.toNat]? = some (opAt (toS x)) := by
  have hl : x.2.2.1.toNat < x.2.1.length := by omega
  unfold opAt
  show _ = some (x.2.1.getD x.2.2.1.toNat (0, 0, 0, 0))
  rw [List.getElem?_eq_getElem hl, List.getD_eq_getElem?_getD, List.getElem?_eq_getElem hl]
  rfl
set_option maxHeartbeats 1000000 in
theorem implOp_u (cs : List Value) (x : CoreD) (w : World) (h : coreR.rd w cs x) (h0 : 0 ≤ x.2.2.1) (h1 : x.2.2.1 < x.2.1.length) :
    Calls Tryz.prog 108 #[aggV cs] w fun e w' => e = .returned (.agg #[.int .i64 (opAt (toS x)).1, .int .i64 (opAt (toS x)).2.1, .int .i64 (opAt (toS x)).2.2.1, .int .i64 (opAt (toS x)).2.2.2]) ∧ Below w.heap.size w w' := by
  have ho := op_some h0 h1
  generalize opAt (toS x) = o at ho ⊢
  obtain ⟨v0, v1, v2, v5, v6, v7, v8, rfl, r0, r1, i2, i3, r4, r5⟩ := core_rd h
  obtain ⟨a1, c1, e1, k1, k2, q⟩ := r1
  simp only [List.cons.injEq, and_true] at e1
  obtain rfl := e1
  have B := below_step (box_below w (.cells #[v0, v1, .slice a1 x.2.1.length c1, .int .i64 x.2.2.1, .int .i64 x.2.2.2.1, v5, v6, v7, v8] 32)) (box_below _ (.cells #[.int .i64 0, .int .i64 0, .int .i64 0, .int .i64 0] 54))
  obtain ⟨b, off, rfl, x0, x1, x2, x3, -⟩ := op_at (slrd_next q B) ho
  have X := heap_on (.cells #[.int .i64 0, .int .i64 0, .int .i64 0, .int .i64 0] 54) (heap_at w (.cells #[v0, v1, .slice (some ⟨b, off, none⟩) x.2.1.length c1, .int .i64 x.2.2.1, .int .i64 x.2.2.2.1, v5, v6, v7, v8] 32))
  have R := heap_at (w.alloc (.cells #[v0, v1, .slice (some ⟨b, off, none⟩) x.2.1.length c1, .int .i64 x.2.2.1, .int .i64 x.2.2.2.1, v5, v6, v7, v8] 32)) (.cells #[.int .i64 0, .int .i64 0, .int .i64 0, .int .i64 0] 54)
  rw [alloc_len] at R
  obtain ⟨n, hn⟩ : ∃ n : Nat, x.2.2.1 = n := ⟨x.2.2.1.toNat, by omega⟩
  rw [hn] at h1 x0 x1 x2 x3 X R B ⊢
  have hn' : (n : Int).toNat = n := by omega
  rw [hn'] at x0 x1 x2 x3
  have hn2 : n < x.2.1.length := by omega
  have h63 : x.2.1.length ≤ 9223372036854775807 := Nat.le_trans k1 k2
  clear h r0 r4 r5 k1 k2 q ho i2 i3 h0
  change Calls Tryz.prog 108 #[.agg #[v0, v1, .slice (some ⟨b, off, none⟩) x.2.1.length c1, .int .i64 (n : Int), .int .i64 x.2.2.2.1, v5, v6, v7, v8]] w _
  obtain ⟨y0, y1, y2, y3, y4, y5, y6, y7, y8⟩ := cells_core X
  obtain ⟨z0, z1, z2, z3⟩ := cells_4 R
  have HR : Hid _ := And.intro R B
  have f0 := frozen_of_row _ _ 0 _ _ R
  have f1 := frozen_of_row _ _ 1 _ _ R
  have f2 := frozen_of_row _ _ 2 _ _ R
  have f3 := frozen_of_row _ _ 3 _ _ R
  clear X R B
  go_enter Tryz.func108, Tryz.ntmps108
  go_wp2
  refine bodyPost_ret (v := .agg #[.int .i64 o.1, .int .i64 o.2.1, .int .i64 o.2.2.1, .int .i64 o.2.2.2]) (by simp [results, Tryz.results108, go_sem]) rfl ⟨rfl, ?_⟩
  exact below_step (box_below w _) (box_below _ _)
end Go.Proofs.YthbclkpmgcfdnaaGreatDoor
