
/- What the functions on stores and ways do, by what cells read as: the contracts of stage 6 in one form. -/
import Derived.Test.YtbcggkfbahmpoaaCoreOk
import Derived.Test.YtbcggkfbahmpoaaSpecCopy
import Derived.Test.YtbcggkfbahmpoaaFillImpl
import Derived.Test.YtbcggkfbahmpoaaNewImpl
import Derived.Test.YtbcggkfbahmpoaaAppAny
namespace Go.Proofs.Ytbcggkfbahmpoaa
open Go.ChangeShapes Go.WideShapes Go.ChangeAt Go.RowKit
set_option linter.unusedVariables false

theorem implCacheOk_u (cs : List Value) (c : CacheD) (w : World) (h : cacheR.rd w cs c) :
    Calls Try.prog 30 #[aggV cs] w fun e w' => e = .returned (.bool (okB isL treeB c)) ∧ Below w.heap.size w w' := by
  obtain ⟨a, cap, b, cp, rfl, l1, l2, m1, m2, r1, r2⟩ := cache_rd h
  exact implCacheOk_any a b c cap cp w r1 r2 (Nat.le_trans l1 l2) (Nat.le_trans m1 m2) (rows_len r1)
theorem implFind_u (cs : List Value) (c : CacheD) (k : Int) (w : World) (hok : OkC isL treeB c) (h : cacheR.rd w cs c) :
    Calls Try.prog 64 #[aggV cs, .int .i64 k] w fun e w' => e = .returned (.tuple #[.agg #[.int .i64 (findP c k).1, .int .i64 (findP c k).2.1], .bool (findP c k).2.2]) ∧ Below w.heap.size w w' := by
  obtain ⟨a, cap, b, cp, rfl, l1, l2, m1, m2, r1, r2⟩ := cache_rd h
  exact implFind_any a b c cap cp k w hok r1
theorem emptyWay_u (w : World) : Calls Try.prog 42 #[] w fun e w' => ∃ ds, e = .returned (aggV ds) ∧ MadeR wayR w w' ds emptyW := by
  refine (emptyWay_any w).mono ?_
  rintro e w' ⟨av, cv, rfl, mm⟩
  exact ⟨_, rfl, mm⟩
theorem l6Empty_u (w : World) : Calls Try.prog 38 #[] w fun e w' => ∃ ds, e = .returned (aggV ds) ∧ MadeR wayR w w' ds emptyW := by
  refine (l6Empty_any w).mono ?_
  rintro e w' ⟨av, cv, rfl, mm⟩
  exact ⟨_, rfl, mm⟩
theorem specAt_u (cs : List Value) (c : CacheD) (k : Int) (w : World) (hok : OkC isL treeB c) (h : cacheR.rd w cs c) :
    Calls Try.prog 26 #[aggV cs, .int .i64 k] w fun e w' => e = .returned (.int .i64 (idxI (atC c k))) ∧ Below w.heap.size w w' := by
  obtain ⟨a, cap, b, cp, rfl, l1, l2, m1, m2, r1, r2⟩ := cache_rd h
  exact specAt_any a b c cap cp k w hok r1
theorem implNew_u (a b : Int) (w : World) :
    Calls Try.prog 40 #[.int .i64 a, .int .i64 b] w fun e w' => ∃ ds, e = .returned (.tuple #[aggV ds, .bool (newI a b).2]) ∧ MadeR cacheR w w' ds (newI a b).1 := by
  refine (implNew_any a b w).mono ?_
  rintro e w' ⟨av, cv, bv, dv, rfl, mm⟩
  exact ⟨_, rfl, mm⟩
theorem specNew_u (a b : Int) (w : World) :
    Calls Try.prog 37 #[.int .i64 a, .int .i64 b] w fun e w' => ∃ ds, e = .returned (.tuple #[aggV ds, .bool (newI a b).2]) ∧ MadeR cacheR w w' ds (newI a b).1 := by
  refine (specNew_any a b w).mono ?_
  rintro e w' ⟨av, cv, bv, dv, rfl, mm⟩
  exact ⟨_, rfl, mm⟩
end Go.Proofs.Ytbcggkfbahmpoaa
