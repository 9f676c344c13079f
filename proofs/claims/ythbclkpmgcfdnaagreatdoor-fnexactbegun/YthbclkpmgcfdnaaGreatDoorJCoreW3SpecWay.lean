
/- CoreW, CoreX, SpecWay. -/
import Derived.Test.YthbclkpmgcfdnaaGreatDoorCoreOk
import Derived.Test.YthbclkpmgcfdnaaGreatDoorSpecCopy
import Derived.Test.YthbclkpmgcfdnaaGreatDoorFillImpl
import Derived.Test.YthbclkpmgcfdnaaGreatDoorNewImpl
import Derived.Test.YthbclkpmgcfdnaaGreatDoorJStoreEnd4UForm
import Derived.Test.YthbclkpmgcfdnaaGreatDoorJDropImpl4CorePlain
import Derived.Test.YthbclkpmgcfdnaaGreatDoorJLines614Iters
/- What the functions on stores and ways do, by what cells read as: the contracts of stage 6 in one form. -/
namespace Go.Proofs.YthbclkpmgcfdnaaGreatDoor
open Go.ChangeShapes Go.WideShapes Go.ChangeAt Go.RowKit
set_option linter.unusedVariables false

theorem implFilled_u (cs us : List Value) (c : CacheD) (u : WayD) (w : World) (h : cacheR.rd w cs c) (hu : wayR.rd w us u) (hl : u.2.2.length ≤ 1048576) :
    Calls Tryz.prog 162 #[aggV cs, aggV us] w fun e w' => ∃ ds, e = .returned (.tuple #[aggV ds, .bool (fillI c u).2]) ∧ MadeR cacheR w w' ds (fillI c u).1 := by
  obtain ⟨a, cap, b, cp, rfl, l1, l2, m1, m2, r1, r2⟩ := cache_rd h
  obtain ⟨ad, cpw, rfl, i1, i2, k1, k2, k3⟩ := way_rd hu
  refine (implFilled_any a b c cap cp u.1 u.2.1 u.2.2 ad cpw w r1 r2 (Nat.le_trans l1 l2) (Nat.le_trans m1 m2) (rows_len r1) i1 i2 k3 hl).mono ?_
  rintro e w' ⟨av, cv, bv, dv, rfl, mm⟩
  exact ⟨_, rfl, mm⟩
theorem implDropped_u (cs : List Value) (c : CacheD) (k : Int) (w : World) (h : cacheR.rd w cs c) :
    Calls Tryz.prog 166 #[aggV cs, .int .i64 k] w fun e w' => ∃ ds, e = .returned (.tuple #[aggV ds, .bool (dropI c k).2]) ∧ MadeR cacheR w w' ds (dropI c k).1 := by
  obtain ⟨a, cap, b, cp, rfl, l1, l2, m1, m2, r1, r2⟩ := cache_rd h
  refine (implDropped_any a b c cap cp k w r1 r2 (Nat.le_trans l1 l2) (Nat.le_trans m1 m2) (rows_len r1)).mono ?_
  rintro e w' ⟨av, cv, bv, dv, rfl, mm⟩
  exact ⟨_, rfl, mm⟩
theorem implFindW_u (cs : List Value) (c : CacheD) (k : Int) (w : World) (h : cacheR.rd w cs c) :
    Calls Tryz.prog 109 #[aggV cs, .int .i64 k] w fun e w' => ∃ us, e = .returned (.tuple #[aggV us, .int .i64 (findI c k).2]) ∧ MadeR wayR w w' us (findI c k).1 := by
  obtain ⟨a, cap, b, cp, rfl, l1, l2, m1, m2, r1, r2⟩ := cache_rd h
  refine (implFindW_any a b c cap cp k w r1 r2 (Nat.le_trans l1 l2) (Nat.le_trans m1 m2) (rows_len r1)).mono ?_
  rintro e w' ⟨av, cv, rfl, mm⟩
  exact ⟨_, rfl, mm⟩
theorem implLeaves_u (cs : List Value) (c : CacheD) (k : Int) (w : World) (h : cacheR.rd w cs c) :
    Calls Tryz.prog 114 #[aggV cs, .int .i64 k] w fun e w' => e = .returned (.int .i64 (leavesI c k)) ∧ Below w.heap.size w w' := by
  obtain ⟨a, cap, b, cp, rfl, l1, l2, m1, m2, r1, r2⟩ := cache_rd h
  exact implLeaves_any a b c cap cp k w r1 r2 (Nat.le_trans l1 l2) (Nat.le_trans m1 m2) (rows_len r1)
theorem implCacheOk_u (cs : List Value) (c : CacheD) (w : World) (h : cacheR.rd w cs c) :
    Calls Tryz.prog 60 #[aggV cs] w fun e w' => e = .returned (.bool (okB isL treeB c)) ∧ Below w.heap.size w w' := by
  obtain ⟨a, cap, b, cp, rfl, l1, l2, m1, m2, r1, r2⟩ := cache_rd h
  exact implCacheOk_any a b c cap cp w r1 r2 (Nat.le_trans l1 l2) (Nat.le_trans m1 m2) (rows_len r1)
theorem implFind_u (cs : List Value) (c : CacheD) (k : Int) (w : World) (hok : OkC isL treeB c) (h : cacheR.rd w cs c) :
    Calls Tryz.prog 130 #[aggV cs, .int .i64 k] w fun e w' => e = .returned (.tuple #[.agg #[.int .i64 (findP c k).1, .int .i64 (findP c k).2.1], .bool (findP c k).2.2]) ∧ Below w.heap.size w w' := by
  obtain ⟨a, cap, b, cp, rfl, l1, l2, m1, m2, r1, r2⟩ := cache_rd h
  exact implFind_any a b c cap cp k w hok r1
theorem implCopied_u (cs : List Value) (c : CacheD) (w : World) (hok : OkC isL treeB c) (h : cacheR.rd w cs c) :
    Calls Tryz.prog 105 #[aggV cs] w fun e w' => ∃ ds, e = .returned (aggV ds) ∧ MadeR cacheR w w' ds c := by
  obtain ⟨a, cap, b, cp, rfl, l1, l2, m1, m2, r1, r2⟩ := cache_rd h
  obtain ⟨hp, m, hm, hrow⟩ := ok_rows hok
  obtain ⟨s1, s2, s3⟩ := ok_small hok
  refine (implCopied_any a b c cap cp m w r1 r2 hp hm hrow (by omega) (fun row hr u hu => (s3 row hr).2 u hu)).mono ?_
  rintro e w' ⟨av, cv, bv, dv, rfl, mm⟩
  exact ⟨_, rfl, mm⟩
theorem wayCopied_u (us : List Value) (u : WayD) (w : World) (h : wayR.rd w us u) (hl : u.2.2.length ≤ 1048576) :
    Calls Tryz.prog 106 #[aggV us] w fun e w' => ∃ ds, e = .returned (aggV ds) ∧ MadeR wayR w w' ds u := by
  obtain ⟨ad, cpw, rfl, i1, i2, k1, k2, k3⟩ := way_rd h
  refine (wayCopied_any u.1 u.2.1 u.2.2 ad cpw w i1 i2 k3 hl).mono ?_
  rintro e w' ⟨av, cv, rfl, mm⟩
  exact ⟨_, rfl, mm⟩
theorem emptyWay_u (w : World) : Calls Tryz.prog 53 #[] w fun e w' => ∃ ds, e = .returned (aggV ds) ∧ MadeR wayR w w' ds emptyW := by
  refine (emptyWay_any w).mono ?_
  rintro e w' ⟨av, cv, rfl, mm⟩
  exact ⟨_, rfl, mm⟩
theorem l6Empty_u (w : World) : Calls Tryz.prog 69 #[] w fun e w' => ∃ ds, e = .returned (aggV ds) ∧ MadeR wayR w w' ds emptyW := by
  refine (l6Empty_any w).mono ?_
  rintro e w' ⟨av, cv, rfl, mm⟩
  exact ⟨_, rfl, mm⟩
theorem l6CopyWay_u (us : List Value) (u : WayD) (w : World) (h : wayR.rd w us u) (hl : u.2.2.length ≤ 1048576) :
    Calls Tryz.prog 71 #[aggV us] w fun e w' => ∃ ds, e = .returned (aggV ds) ∧ MadeR wayR w w' ds u := by
  obtain ⟨ad, cpw, rfl, i1, i2, k1, k2, k3⟩ := way_rd h
  refine (l6CopyWay_any u.1 u.2.1 u.2.2 ad cpw w i1 i2 k3 hl).mono ?_
  rintro e w' ⟨av, cv, rfl, mm⟩
  exact ⟨_, rfl, mm⟩
theorem l6Copy_u (cs : List Value) (c : CacheD) (w : World) (hok : OkC isL treeB c) (h : cacheR.rd w cs c) :
    Calls Tryz.prog 122 #[aggV cs] w fun e w' => ∃ ds, e = .returned (aggV ds) ∧ MadeR cacheR w w' ds c := by
  obtain ⟨a, cap, b, cp, rfl, l1, l2, m1, m2, r1, r2⟩ := cache_rd h
  obtain ⟨s1, s2, s3⟩ := ok_small hok
  refine (l6Copy_any a b c cap cp w r1 r2 (by omega) (by omega) s3).mono ?_
  rintro e w' ⟨av, cv, bv, dv, rfl, mm⟩
  exact ⟨_, rfl, mm⟩
theorem specAt_u (cs : List Value) (c : CacheD) (k : Int) (w : World) (hok : OkC isL treeB c) (h : cacheR.rd w cs c) :
    Calls Tryz.prog 67 #[aggV cs, .int .i64 k] w fun e w' => e = .returned (.int .i64 (idxI (atC c k))) ∧ Below w.heap.size w w' := by
  obtain ⟨a, cap, b, cp, rfl, l1, l2, m1, m2, r1, r2⟩ := cache_rd h
  exact specAt_any a b c cap cp k w hok r1
theorem specLeaves_u (cs : List Value) (c : CacheD) (k : Int) (w : World) (hok : OkC isL treeB c) (hb : betw k 0 15 = true) (h : cacheR.rd w cs c) :
    Calls Tryz.prog 125 #[aggV cs, .int .i64 k] w fun e w' => e = .returned (.int .i64 (leavesI c k)) ∧ Below w.heap.size w w' := by
  obtain ⟨a, cap, b, cp, rfl, l1, l2, m1, m2, r1, r2⟩ := cache_rd h
  exact specLeaves_in a b c cap cp k w hok hb r1 r2
end Go.Proofs.YthbclkpmgcfdnaaGreatDoor
/- The specification's model of a core against the functions on stores. Plain facts. -/
namespace Go.Proofs.YthbclkpmgcfdnaaGreatDoor
open Go.ChangeShapes Go.WideShapes Go.ChangeAt Go.RowKit
set_option linter.unusedVariables false
abbrev ofS (s : CoreS) : CoreD := (s.cache, s.prog, s.at_, s.phase, s.held, s.told)
abbrev toS (x : CoreD) : CoreS := ⟨x.1, x.2.1, x.2.2.1, x.2.2.2.1, x.2.2.2.2.1, x.2.2.2.2.2⟩
theorem fill_of {c : CacheD} (h : OkC isL treeB c) (u : WayD) : fillS c u = (if (fillI c u).2 then some (fillI c u).1 else none) := by
  unfold fillS
  cases hf : fullB isL u
  · rw [fill_not h hf]; rfl
  · cases hp : putNo c u.1 with
    | none => rw [fill_none h hp]; rfl
    | some i => rw [fill_at h hf hp]
theorem fill_keep {c : CacheD} (h : OkC isL treeB c) (u : WayD) (hn : (fillI c u).2 = false) : (fillI c u).1 = c := by
  cases hf : fullB isL u
  · rw [fill_not h hf]
  · cases hp : putNo c u.1 with
    | none => rw [fill_none h hp]
    | some i => rw [fill_at h hf hp] at hn; cases hn
theorem drop_of {c : CacheD} (h : OkC isL treeB c) (k : Int) : (dropI c k).1 = dropS c k := by
  unfold dropS
  cases ha : atC c k with
  | none => rw [drop_none h ha]
  | some i => rw [drop_some h ha]; rfl
theorem find_of {c : CacheD} (h : OkC isL treeB c) (k : Int) : (findI c k).1 = wayOf c k := way_find h k
theorem leaves_of {c : CacheD} (h : OkC isL treeB c) {k : Int} (hb : betw k 0 15 = true) : leavesI c k = leavesS c k := by
  unfold leavesS
  cases hp : putNo c k with
  | some i => rw [leaves_room hp]
  | none =>
    obtain ⟨t1, t2, t3, t4, t5, t6, t7⟩ := ok_tree h k
    obtain ⟨g1, g2, g3⟩ := go_in t3
    have hlt : (goI (treeFor c k) (waysN c)).toNat < (rowFor c k).length := by rw [t1]; omega
    have hu := List.getElem?_eq_getElem hlt
    rw [leaves_go h hb hp hu]
    dsimp only
    rw [t1, getD_of hu]
end Go.Proofs.YthbclkpmgcfdnaaGreatDoor
/- The way of a line, of the specification: shared with the store where it is there. Conditions: a right store. -/
namespace Go.Proofs.YthbclkpmgcfdnaaGreatDoor
open Go.ChangeShapes Go.WideShapes Go.ChangeAt Go.RowKit
set_option linter.unusedVariables false
theorem froz_way {w : World} {g : Nat} {cs : Array Value} {t : TypeId} (h : w.heap[g]? = some (.cells cs t (0, 0))) : w.frozen? ⟨g, 0, none⟩ = false ∧ w.frozen? ⟨g, 1, none⟩ = false ∧ w.frozen? ⟨g, 2, none⟩ = false :=
  ⟨frozen_of_row w g 0 _ _ h, frozen_of_row w g 1 _ _ h, frozen_of_row w g 2 _ _ h⟩
set_option maxHeartbeats 4000000 in
theorem specWay_u (cs : List Value) (c : CacheD) (k : Int) (w : World) (hok : OkC isL treeB c) (h : cacheR.rd w cs c) :
    Calls Tryz.prog 72 #[aggV cs, .int .i64 k] w fun e w' => ∃ us, e = .returned (aggV us) ∧ wayR.rd w' us (wayOf c k) ∧ Below w.heap.size w w' := by
  have HAT : Hid (∀ W, Below w.heap.size w W → Calls Tryz.prog 67 #[aggV cs, .int .i64 k] W fun e w' => e = .returned (.int .i64 (idxI (atC c k))) ∧ Below W.heap.size W w') := fun W hb => specAt_u cs c k W hok (rd_next h hb)
  obtain ⟨a, cap, b, cp, rfl, l1, l2, m1, m2, h1, h2⟩ := cache_rd h
  cases hat : atC c k with
  | none =>
    rw [hat] at HAT
    have hw : wayOf c k = emptyW := by unfold wayOf; rw [hat]
    rw [hw]
    clear h h1 h2 hok hat hw
    rw [show aggV [.slice a c.1.length cap, .slice b c.2.length cp] = .agg #[.slice a c.1.length cap, .slice b c.2.length cp] from rfl] at HAT ⊢
    have X := heap_on (.cells #[.int .i64 0, .int .i64 0, .slice none 0 0] 30) (heap_at w (.cells #[.slice a c.1.length cap, .slice b c.2.length cp] 27))
    have Y := heap_at (w.alloc (.cells #[.slice a c.1.length cap, .slice b c.2.length cp] 27)) (.cells #[.int .i64 0, .int .i64 0, .slice none 0 0] 30)
    rw [alloc_len] at Y
    have B := below_step (box_below w (.cells #[.slice a c.1.length cap, .slice b c.2.length cp] 27)) (box_below _ (.cells #[.int .i64 0, .int .i64 0, .slice none 0 0] 30))
    go_enter Tryz.func72, Tryz.ntmps72
    go_wp2_with fail
    generalize (w.alloc (.cells #[.slice a c.1.length cap, .slice b c.2.length cp] 27)).alloc (.cells #[.int .i64 0, .int .i64 0, .slice none 0 0] 30) = W0 at X Y B ⊢
    refine (HAT.out _ B).mono ?_
    rintro e w1 ⟨rfl, bq⟩
    replace X := row_keep bq X
    replace Y := row_keep bq Y
    replace B := below_step B bq
    clear bq X HAT
    rw [show idxI (none : Option Nat) = -1 from rfl]
    go_wp2_with fail
    refine (l6Empty_u _).mono ?_
    rintro e w2 ⟨ds, rfl, mm⟩
    have mb := mm.2
    obtain ⟨ea, ec, rfl, -, -, -, -, hq⟩ := way_rd (wayR.own_rd mm.1)
    rw [show aggV [.int .i64 emptyW.1, .int .i64 emptyW.2.1, .slice ea emptyW.2.2.length ec] = .agg #[.int .i64 (-1), .int .i64 0, .slice ea 0 ec] from rfl]
    have O2 := owned_made (R := wayR) mm
    have yl := (Array.getElem?_eq_some_iff.1 Y).1
    replace Y := row_keep mb Y
    replace B := below_step B mb
    obtain ⟨y0, y1, y2⟩ := cells_three Y
    obtain ⟨f0, f1, f2⟩ := froz_way Y
    have HZ : Hid _ := And.intro Y (And.intro B O2)
    clear Y B O2 mm mb hq
    go_wp2
    obtain ⟨Y, B, O2⟩ := HZ.out
    have V := row_setCs (g := w.heap.size + 1) [.int .i64 (-1), .int .i64 0, .slice ea 0 ec] 0 Y
    obtain ⟨r0, r1, r2⟩ := cells_three (show (((w2.setCell ⟨w.heap.size + 1, 0, none⟩ (.int .i64 (-1))).setCell ⟨w.heap.size + 1, 1, none⟩ (.int .i64 0)).setCell ⟨w.heap.size + 1, 2, none⟩ (.slice ea 0 ec)).heap[w.heap.size + 1]? = some (.cells #[.int .i64 (-1), .int .i64 0, .slice ea 0 ec] 30 (0, 0)) from V)
    refine bodyPost_ret (v := .agg #[.int .i64 (-1), .int .i64 0, .slice ea 0 ec]) (by simp [results, Tryz.results72, go_sem, r0, r1, r2]) rfl ⟨[.int .i64 (-1), .int .i64 0, .slice ea 0 ec], rfl, ?_, below_setCs0 (g := w.heap.size + 1) (o := 0) (vs := [.int .i64 (-1), .int .i64 0, .slice ea 0 ec]) B (by omega)⟩
    exact wayR.own_rd (own_setCs (g := w.heap.size + 1) (o := 0) (vs := [.int .i64 (-1), .int .i64 0, .slice ea 0 ec]) O2.1 (fun q => by have := q.1; omega))
  | some fi =>
    obtain ⟨hl0, u, hu, hul⟩ := at_some hat
    have hw : wayOf c k = u := by unfold wayOf; rw [hat]; simp only; rw [List.getD_eq_getElem?_getD, hu]; rfl
    rw [hw]
    obtain ⟨hp, hget, hne, hr4, hset, hsl⟩ := ok_row hok k
    obtain ⟨b0, o0, aj, cj, rfl, k2, -, -, hrd⟩ := set_at h1 hget
    obtain ⟨bj, oj, cs, rfl, hrdu, hcell⟩ := slrd_at hrd hu
    have hrdu2 := hrdu
    obtain ⟨ad, cpw, rfl, i1, i2, -, -, hd3⟩ := way_rd hrdu
    have k4 := hcell 0 _ rfl
    have k5 := hcell 1 _ rfl
    have k6 := hcell 2 _ rfl
    rw [show oj + (fi * wayR.size + 0) = oj + fi * 3 from rfl] at k4
    rw [show oj + (fi * wayR.size + 1) = oj + fi * 3 + 1 from rfl] at k5
    rw [show oj + (fi * wayR.size + 2) = oj + fi * 3 + 2 from rfl] at k6
    refine (l6Way_in b c cap cp b0 o0 bj oj cj fi cpw ad k u.1 u.2.1 u.2.2 w hok h1 hat k2 k4 k5 k6).mono ?_
    rintro e w' ⟨rfl, bq⟩
    exact ⟨_, rfl, rd_next hrdu2 bq, bq⟩
end Go.Proofs.YthbclkpmgcfdnaaGreatDoor
