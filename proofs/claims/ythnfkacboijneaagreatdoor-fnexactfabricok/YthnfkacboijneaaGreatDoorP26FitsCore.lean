import Derived.Test.YthnfkacboijneaaGreatDoorP17FitsCache
import Derived.Test.YthnfkacboijneaaGreatDoorP23CopyInts
import Derived.Test.YthnfkacboijneaaGreatDoorP25Impl11
import Derived.Test.YthnfkacboijneaaGreatDoorP13StoreC
import Derived.Test.YthnfkacboijneaaGreatDoorP22Finds
namespace Go.Proofs.YthnfkacboijneaaGreatDoor
open Go.ChangeShapes Go.WideShapes Go.ChangeAt Go.RowKit
set_option linter.unusedVariables false
noncomputable def coreFit (c s y l : Int) (x : CoreD) : Bool := coreB x && (decide (progI c s y l x.2.1 = 0) && (cacheIn s y l x.1 (waysN x.1) && wayIn l x.2.2.2.2.1))
theorem core_ok {x : CoreD} (h : coreB x = true) : OkC isL treeB x.1 := by
 unfold coreB at h
 rw [Bool.and_eq_true] at h
 exact okB_iff.1 h.1
theorem ok_ways {x : CacheD} (h : OkC isL treeB x) : (x.1.length = 1 ∨ x.1.length = 2 ∨ x.1.length = 4) ∧ (waysN x = 1 ∨ waysN x = 2 ∨ waysN x = 4) ∧ ∀ row ∈ x.1, row.length = waysN x := by
 obtain ⟨h1, h2, m, hm, h3⟩ := h
 have h1' : x.1.length = 1 ∨ x.1.length = 2 ∨ x.1.length = 4 := h1
 have hpos : 0 < x.1.length := by omega
 have e : waysN x = m := by
  unfold waysN
  rw [List.getD_eq_getElem?_getD, List.getElem?_eq_getElem hpos]
  exact (h3 0 _ (List.getElem?_eq_getElem hpos)).1
 refine ⟨h1', by rw [e]; exact hm, fun row hr => ?_⟩
 obtain ⟨i, hi⟩ := List.getElem?_of_mem hr
 rw [e]
 exact (h3 i row hi).1
set_option maxHeartbeats 4000000 in
set_option maxRecDepth 20000 in
theorem fitsCore_u (c s y l : Int) (cs : List Value) (x : CoreD) (w : World) (hh : Hold w) (hc : codeI c s y l = 0) (h : coreR.rd w cs x) :
    Calls Tryz.prog 107 #[.agg #[.int .i64 c, .int .i64 s, .int .i64 y, .int .i64 l], aggV cs] w fun e w' => e = .returned (.bool (coreFit c s y l x)) ∧ Below w.heap.size w w' := by
 have H1 : Hid (∀ W, Below w.heap.size w W → Calls Tryz.prog 170 #[aggV cs] W fun e w' => e = .returned (.bool (coreB x)) ∧ Below W.heap.size W w') := fun W hb => implCoreOk_u cs x W (rd_next h hb)
 obtain ⟨v0, v1, v2, v5, v6, v7, v8, rfl, r0, r1, i2, i3, r4, r5⟩ := core_rd h
 obtain ⟨a0, c0, b0, d0, e0, -, -, -, -, k0, -⟩ := cache_rd r0
 simp only [List.cons.injEq, and_true] at e0
 obtain ⟨rfl, rfl⟩ := e0
 obtain ⟨a1, c1, e1, pl1, pl2, pq1⟩ := r1
 simp only [List.cons.injEq, and_true] at e1
 obtain rfl := e1
 obtain ⟨a4, c4, e4, -⟩ := way_rd r4
 simp only [List.cons.injEq, and_true] at e4
 obtain ⟨rfl, rfl, rfl⟩ := e4
 obtain ⟨a5, c5, e5, -, -, -⟩ := r5
 simp only [List.cons.injEq, and_true] at e5
 obtain rfl := e5
 have H2 : Hid (∀ W, Below w.heap.size w W → Calls Tryz.prog 128 #[.agg #[.int .i64 c, .int .i64 s, .int .i64 y, .int .i64 l], .slice a1 x.2.1.length c1] W fun e w' => e = .returned (.int .i64 (progI c s y l x.2.1)) ∧ Below W.heap.size W w') := fun W hb => implProgramCode_any c s y l a1 x.2.1 c1 W (hh.goes hb) (slrd_next pq1 hb) (Nat.le_trans pl1 pl2)
 have H3 : Hid (coreB x = true → ∀ W, Below w.heap.size w W → Calls Tryz.prog 171 #[.agg #[.int .i64 c, .int .i64 s, .int .i64 y, .int .i64 l], .agg #[.slice a0 x.1.1.length c0, .slice b0 x.1.2.length d0]] W fun e w' => e = .returned (.bool (cacheIn s y l x.1 (waysN x.1))) ∧ Below W.heap.size W w') := fun hk W hb => by
  obtain ⟨p1, p2, p3⟩ := ok_ways (core_ok hk)
  exact fitsCache_any c s y l a0 b0 x.1 c0 d0 (waysN x.1) W hc (slrd_next k0 hb) p1 p2 p3
 have H4 : Hid (∀ W, Calls Tryz.prog 172 #[.agg #[.int .i64 c, .int .i64 s, .int .i64 y, .int .i64 l], .agg #[.int .i64 x.2.2.2.2.1.1, .int .i64 x.2.2.2.2.1.2.1, .slice a4 x.2.2.2.2.1.2.2.length c4]] W fun e w' => e = .returned (.bool (wayIn l x.2.2.2.2.1)) ∧ Below W.heap.size W w') := fun W => fitsWay_any c s y l x.2.2.2.2.1 a4 c4 W hc
 unfold coreFit
 generalize coreB x = q1 at H1 H3 ⊢
 generalize progI c s y l x.2.1 = kp at H2 ⊢
 generalize cacheIn s y l x.1 (waysN x.1) = q3 at H3 ⊢
 generalize wayIn l x.2.2.2.2.1 = q4 at H4 ⊢
 rw [show aggV [.slice a0 x.1.1.length c0, .slice b0 x.1.2.length d0, .slice a1 x.2.1.length c1, .int .i64 x.2.2.1, .int .i64 x.2.2.2.1, .int .i64 x.2.2.2.2.1.1, .int .i64 x.2.2.2.2.1.2.1, .slice a4 x.2.2.2.2.1.2.2.length c4, .slice a5 x.2.2.2.2.2.length c5] = .agg #[.slice a0 x.1.1.length c0, .slice b0 x.1.2.length d0, .slice a1 x.2.1.length c1, .int .i64 x.2.2.1, .int .i64 x.2.2.2.1, .int .i64 x.2.2.2.2.1.1, .int .i64 x.2.2.2.2.1.2.1, .slice a4 x.2.2.2.2.1.2.2.length c4, .slice a5 x.2.2.2.2.2.length c5] from rfl] at H1 ⊢
 clear h r0 r4 i2 i3 hc hh pq1 pl1 pl2 k0
 have B := Below.refl w.heap.size w
 go_enter Tryz.func107, Tryz.ntmps107
 go_upto_region 1 with fail
 have X := heap_at w (.cells #[.int .i64 c, .int .i64 s, .int .i64 y, .int .i64 l] 38)
 have bz := box_below w (.cells #[.int .i64 c, .int .i64 s, .int .i64 y, .int .i64 l] 38)
 have zX := alloc_len w (.cells #[.int .i64 c, .int .i64 s, .int .i64 y, .int .i64 l] 38)
 replace B := below_step B bz
 clear bz
 generalize w.alloc (.cells #[.int .i64 c, .int .i64 s, .int .i64 y, .int .i64 l] 38) = u1w at B X zX ⊢
 have zXa := Nat.le_of_eq zX
 have zXb := Nat.le_of_eq zX.symm
 clear zX
 have C := heap_at u1w (.cells #[.slice a0 x.1.1.length c0, .slice b0 x.1.2.length d0, .slice a1 x.2.1.length c1, .int .i64 x.2.2.1, .int .i64 x.2.2.2.1, .int .i64 x.2.2.2.2.1.1, .int .i64 x.2.2.2.2.1.2.1, .slice a4 x.2.2.2.2.1.2.2.length c4, .slice a5 x.2.2.2.2.2.length c5] 86)
 have bz := box_below u1w (.cells #[.slice a0 x.1.1.length c0, .slice b0 x.1.2.length d0, .slice a1 x.2.1.length c1, .int .i64 x.2.2.1, .int .i64 x.2.2.2.1, .int .i64 x.2.2.2.2.1.1, .int .i64 x.2.2.2.2.1.2.1, .slice a4 x.2.2.2.2.1.2.2.length c4, .slice a5 x.2.2.2.2.2.length c5] 86)
 have zC := alloc_len u1w (.cells #[.slice a0 x.1.1.length c0, .slice b0 x.1.2.length d0, .slice a1 x.2.1.length c1, .int .i64 x.2.2.1, .int .i64 x.2.2.2.1, .int .i64 x.2.2.2.2.1.1, .int .i64 x.2.2.2.2.1.2.1, .slice a4 x.2.2.2.2.1.2.2.length c4, .slice a5 x.2.2.2.2.2.length c5] 86)
 rw [show u1w.heap.size = w.heap.size + 1 from by omega] at C
 replace B := below_step B bz
 replace X := row_keep bz X
 clear bz
 generalize u1w.alloc (.cells #[.slice a0 x.1.1.length c0, .slice b0 x.1.2.length d0, .slice a1 x.2.1.length c1, .int .i64 x.2.2.1, .int .i64 x.2.2.2.1, .int .i64 x.2.2.2.2.1.1, .int .i64 x.2.2.2.2.1.2.1, .slice a4 x.2.2.2.2.1.2.2.length c4, .slice a5 x.2.2.2.2.2.length c5] 86) = u2w at B X C zC ⊢
 have zCa := Nat.le_of_eq zC
 have zCb := Nat.le_of_eq zC.symm
 clear zC
 obtain ⟨Xc0, Xc1, Xc2, Xc3⟩ := cells_4 X
 have Xlt := (Array.getElem?_eq_some_iff.1 X).1
 obtain ⟨Cc0, Cc1, Cc2, Cc3, Cc4, Cc5, Cc6, Cc7, Cc8⟩ := cells_core C
 have Clt := (Array.getElem?_eq_some_iff.1 C).1
 go_wp2_with fail
 clear Xc0 Xc1 Xc2 Xc3 Xlt Cc0 Cc1 Cc2 Cc3 Cc4 Cc5 Cc6 Cc7 Cc8 Clt
 refine (H1.out _ B).mono ?_
 rintro e u3w ⟨rfl, bq⟩
 have tu3w : u2w.heap.size ≤ u3w.heap.size := bq.size
 replace B := below_step B bq
 replace X := row_keep bq X
 replace C := row_keep bq C
 clear bq
 cases q1
 ·skip
  obtain ⟨Xc0, Xc1, Xc2, Xc3⟩ := cells_4 X
  have Xlt := (Array.getElem?_eq_some_iff.1 X).1
  obtain ⟨Cc0, Cc1, Cc2, Cc3, Cc4, Cc5, Cc6, Cc7, Cc8⟩ := cells_core C
  have Clt := (Array.getElem?_eq_some_iff.1 C).1
  have HB : Hid _ := B
  clear B X C
  go_wp2
  go_ret
  exact ⟨rfl, HB.out⟩
 ·skip
  obtain ⟨Xc0, Xc1, Xc2, Xc3⟩ := cells_4 X
  have Xlt := (Array.getElem?_eq_some_iff.1 X).1
  obtain ⟨Cc0, Cc1, Cc2, Cc3, Cc4, Cc5, Cc6, Cc7, Cc8⟩ := cells_core C
  have Clt := (Array.getElem?_eq_some_iff.1 C).1
  go_wp2_with fail
  clear Xc0 Xc1 Xc2 Xc3 Xlt Cc0 Cc1 Cc2 Cc3 Cc4 Cc5 Cc6 Cc7 Cc8 Clt
  refine (H2.out _ B).mono ?_
  rintro e u4w ⟨rfl, bq⟩
  have tu4w : u3w.heap.size ≤ u4w.heap.size := bq.size
  replace B := below_step B bq
  replace X := row_keep bq X
  replace C := row_keep bq C
  clear bq
  by_cases hz : kp = 0
  ·have zt : (kp == 0) = true := by simp [hz]
   subst hz
   have hz : (0 : Int) = 0 := rfl
   clear hz
   obtain ⟨Xc0, Xc1, Xc2, Xc3⟩ := cells_4 X
   have Xlt := (Array.getElem?_eq_some_iff.1 X).1
   obtain ⟨Cc0, Cc1, Cc2, Cc3, Cc4, Cc5, Cc6, Cc7, Cc8⟩ := cells_core C
   have Clt := (Array.getElem?_eq_some_iff.1 C).1
   go_wp2_with fail
   clear Xc0 Xc1 Xc2 Xc3 Xlt Cc0 Cc1 Cc2 Cc3 Cc4 Cc5 Cc6 Cc7 Cc8 Clt
   refine (H3.out (by first | rfl | trivial) _ B).mono ?_
   rintro e u5w ⟨rfl, bq⟩
   have tu5w : u4w.heap.size ≤ u5w.heap.size := bq.size
   replace B := below_step B bq
   replace X := row_keep bq X
   replace C := row_keep bq C
   clear bq
   cases q3
   ·skip
    obtain ⟨Xc0, Xc1, Xc2, Xc3⟩ := cells_4 X
    have Xlt := (Array.getElem?_eq_some_iff.1 X).1
    obtain ⟨Cc0, Cc1, Cc2, Cc3, Cc4, Cc5, Cc6, Cc7, Cc8⟩ := cells_core C
    have Clt := (Array.getElem?_eq_some_iff.1 C).1
    have HB : Hid _ := B
    clear B X C
    go_wp2
    go_ret
    exact ⟨by simp, HB.out⟩
   ·skip
    obtain ⟨Xc0, Xc1, Xc2, Xc3⟩ := cells_4 X
    have Xlt := (Array.getElem?_eq_some_iff.1 X).1
    obtain ⟨Cc0, Cc1, Cc2, Cc3, Cc4, Cc5, Cc6, Cc7, Cc8⟩ := cells_core C
    have Clt := (Array.getElem?_eq_some_iff.1 C).1
    go_wp2_with fail
    clear Xc0 Xc1 Xc2 Xc3 Xlt Cc0 Cc1 Cc2 Cc3 Cc4 Cc5 Cc6 Cc7 Cc8 Clt
    refine (H4.out _).mono ?_
    rintro e u6w ⟨rfl, bq⟩
    have tu6w : u5w.heap.size ≤ u6w.heap.size := bq.size
    replace B := below_step B bq
    replace X := row_keep bq X
    replace C := row_keep bq C
    clear bq
    obtain ⟨Xc0, Xc1, Xc2, Xc3⟩ := cells_4 X
    have Xlt := (Array.getElem?_eq_some_iff.1 X).1
    obtain ⟨Cc0, Cc1, Cc2, Cc3, Cc4, Cc5, Cc6, Cc7, Cc8⟩ := cells_core C
    have Clt := (Array.getElem?_eq_some_iff.1 C).1
    have HB : Hid _ := B
    clear B X C
    go_wp2
    go_ret
    exact ⟨by simp, HB.out⟩
  ·have zt : (kp == 0) = false := by simp [hz]
   have HZ : Hid (¬ kp = 0) := hz
   clear hz
   obtain ⟨Xc0, Xc1, Xc2, Xc3⟩ := cells_4 X
   have Xlt := (Array.getElem?_eq_some_iff.1 X).1
   obtain ⟨Cc0, Cc1, Cc2, Cc3, Cc4, Cc5, Cc6, Cc7, Cc8⟩ := cells_core C
   have Clt := (Array.getElem?_eq_some_iff.1 C).1
   have HB : Hid _ := B
   clear B X C
   go_wp2
   go_ret
   exact ⟨by simp [HZ.out], HB.out⟩
end Go.Proofs.YthnfkacboijneaaGreatDoor
