
/- DropImpl, OkSmall, Touch, CorePlain. -/
import Derived.Test.YthbclkpmgcfdnaaGreatDoorCopyImpl
import Derived.Test.YthbclkpmgcfdnaaGreatDoorSpecCopy
import Derived.Test.YthbclkpmgcfdnaaGreatDoorJStoreEnd4UForm
import Derived.Test.YthbclkpmgcfdnaaGreatDoorFindW
import Derived.Test.YthbclkpmgcfdnaaGreatDoorJChange8Own
import Derived.Test.YthbclkpmgcfdnaaGreatDoorFinds
import Derived.Test.YthbclkpmgcfdnaaGreatDoorJNexts3Door
import Derived.Test.YthbclkpmgcfdnaaGreatDoorJMsgs7OpsBad
import Derived.Test.YthbclkpmgcfdnaaGreatDoorCoreOk
/- A line dropped out of a store, by the program. No condition but lengths that a machine can hold. -/
namespace Go.Proofs.YthbclkpmgcfdnaaGreatDoor
open Go.ChangeShapes Go.WideShapes Go.ChangeAt Go.RowKit
set_option linter.unusedVariables false
theorem ok_rows {c : CacheD} (h : OkC isL treeB c) : (c.1.length = 1 ∨ c.1.length = 2 ∨ c.1.length = 4) ∧ ∃ m, (m = 1 ∨ m = 2 ∨ m = 4) ∧ ∀ row ∈ c.1, row.length = m := by
  obtain ⟨h1, h2, m, hm, h3⟩ := h
  refine ⟨h1, m, hm, fun row hr => ?_⟩
  obtain ⟨s, hs⟩ := List.getElem?_of_mem hr
  exact (h3 s row hs).1
/- A store that was made is laid as the answer: the two cells of the result are set. -/
theorem ret_cache {w w4 : World} {S1 S2 : Foot} {u v : Value} {c : CacheD} (N1 : setsR.own w4 S1 [u] c.1) (N2 : intsR.own w4 S2 [v] c.2) (a1 : ∀ k, S1 k → w.heap.size + 2 ≤ k ∧ k < w4.heap.size) (a2 : ∀ k, S2 k → w.heap.size + 2 ≤ k ∧ k < w4.heap.size) (dd : Dis S1 S2) (B : Below w.heap.size w w4) :
    MadeR cacheR w ((w4.setCell ⟨w.heap.size + 1, 0, none⟩ u).setCell ⟨w.heap.size + 1, 1, none⟩ v) [u, v] c := by
  refine ⟨own_cache (S1 := S1) (S2 := S2) (own_setC (own_setC N1 ?_) ?_) (own_setC (own_setC N2 ?_) ?_) ?_ ?_ dd, below_setC (below_setC B (by omega)) (by omega)⟩
  · exact fun h => by have := (a1 _ h).1; omega
  · exact fun h => by have := (a1 _ h).1; omega
  · exact fun h => by have := (a2 _ h).1; omega
  · exact fun h => by have := (a2 _ h).1; omega
  · intro x h
    exact ⟨by have := (a1 _ h).1; omega, by have := (a1 _ h).2; simp; omega⟩
  · intro x h
    exact ⟨by have := (a2 _ h).1; omega, by have := (a2 _ h).2; simp; omega⟩
theorem madeR_on {α : Type} {R : Rep α} {w w1 w2 : World} {cs : List Value} {u : α} (h : MadeR R w w1 cs u) (hb : Below w1.heap.size w1 w2) : MadeR R w w2 cs u :=
  ⟨R.own_mono (own_next h.1 hb) (rng_sub (Nat.le_refl _) hb.size), below_step h.2 hb⟩

set_option maxRecDepth 8000 in
set_option maxHeartbeats 4000000 in
theorem implDropped_any (a b : Option Addr) (c : CacheD) (cap cp : Nat) (line : Int) (w : World) (h1 : SlRd waysR w a c.1) (h2 : SlRd intR w b c.2) (m1 : c.1.length ≤ maxLen) (m2 : c.2.length ≤ maxLen) (m3 : ∀ row ∈ c.1, row.length ≤ maxLen) :
    Calls Tryz.prog 166 #[.agg #[.slice a c.1.length cap, .slice b c.2.length cp], .int .i64 line] w fun e w' => ∃ av cv bv dv, e = .returned (.tuple #[.agg #[.slice av (dropI c line).1.1.length cv, .slice bv (dropI c line).1.2.length dv], .bool (dropI c line).2]) ∧
      MadeR cacheR w w' [.slice av (dropI c line).1.1.length cv, .slice bv (dropI c line).1.2.length dv] (dropI c line).1 := by
  have HOK : Hid (∀ W, Below w.heap.size w W → Calls Tryz.prog 60 #[.agg #[.slice a c.1.length cap, .slice b c.2.length cp]] W fun e w' => e = .returned (.bool (okB isL treeB c)) ∧ Below W.heap.size W w') := fun W hb =>
    implCacheOk_any a b c cap cp W (slrd_keep h1 fun k hk => hb.block k hk) (slrd_keep h2 fun k hk => hb.block k hk) m1 m2 m3
  have X := heap_on (.cells #[.slice none 0 0, .slice none 0 0] 27) (heap_at w (.cells #[.slice a c.1.length cap, .slice b c.2.length cp] 27))
  have Y := heap_at (w.alloc (.cells #[.slice a c.1.length cap, .slice b c.2.length cp] 27)) (.cells #[.slice none 0 0, .slice none 0 0] 27)
  rw [alloc_len] at Y
  have B := below_step (box_below w (.cells #[.slice a c.1.length cap, .slice b c.2.length cp] 27)) (box_below _ (.cells #[.slice none 0 0, .slice none 0 0] 27))
  cases hok : okB isL treeB c
  · rw [hok] at HOK
    rw [drop_bad hok]
    show Calls Tryz.prog 166 _ w fun e w' => ∃ av cv bv dv, e = .returned (.tuple #[.agg #[.slice av 0 cv, .slice bv 0 dv], .bool false]) ∧ MadeR cacheR w w' [.slice av 0 cv, .slice bv 0 dv] (([], []) : CacheD)
    clear h1 h2 m1 m2 m3
    go_enter Tryz.func166, Tryz.ntmps166
    go_wp2_with fail
    generalize (w.alloc (.cells #[.slice a c.1.length cap, .slice b c.2.length cp] 27)).alloc (.cells #[.slice none 0 0, .slice none 0 0] 27) = W0 at X Y B ⊢
    refine (HOK.out _ B).mono ?_
    rintro e w1 ⟨rfl, b1⟩
    replace B := below_step B b1
    replace Y := row_keep b1 Y
    clear b1 X HOK
    obtain ⟨y0, y1⟩ := cells_two Y
    obtain ⟨f0, f1⟩ := cells_froz2 Y
    have HY : Hid _ := Y
    clear Y
    go_wp2
    obtain ⟨r0, r1⟩ := cell_two (put2 (a := .slice none 0 0) (b := .slice none 0 0) HY.out)
    refine bodyPost_ret (v := .tuple #[.agg #[.slice none 0 0, .slice none 0 0], .bool false]) (by simp [results, Tryz.results166, go_sem, r0, r1]) rfl ⟨none, 0, none, 0, rfl, own_two_nils _ _, below_setC (below_setC B (by omega)) (by omega)⟩
  · have hokc := okB_iff.1 hok
    rw [hok] at HOK
    obtain ⟨k1, k2, k3⟩ := ok_small hokc
    obtain ⟨hp4, mw, hm4, hrw⟩ := ok_rows hokc
    have CP : Hid (∀ W, Below w.heap.size w W → Calls Tryz.prog 105 #[.agg #[.slice a c.1.length cap, .slice b c.2.length cp]] W fun e w' => ∃ av cv bv dv, e = .returned (.agg #[.slice av c.1.length cv, .slice bv c.2.length dv]) ∧ MadeR cacheR W w' [.slice av c.1.length cv, .slice bv c.2.length dv] c) := fun W hb =>
      implCopied_any a b c cap cp mw W (slrd_keep h1 fun k hk => hb.block k hk) (slrd_keep h2 fun k hk => hb.block k hk) hp4 hm4 hrw (by omega) (fun row hr u hu => (k3 row hr).2 u hu)
    have HFD : Hid (∀ (av bv : Option Addr) (cv dv : Nat) (W : World), SlRd waysR W av c.1 → Calls Tryz.prog 130 #[.agg #[.slice av c.1.length cv, .slice bv c.2.length dv], .int .i64 line] W fun e w' => e = .returned (.tuple #[.agg #[.int .i64 (findP c line).1, .int .i64 (findP c line).2.1], .bool (findP c line).2.2]) ∧ Below W.heap.size W w') :=
      fun av bv cv dv W hr => implFind_any av bv c cv dv line W hokc hr
    clear h1 h2 m1 m2 m3 hp4 hm4 hrw
    have e0 : ((w.alloc (.cells #[.slice a c.1.length cap, .slice b c.2.length cp] 27)).alloc (.cells #[.slice none 0 0, .slice none 0 0] 27)).heap.size = w.heap.size + 2 := by simp
    cases hat : atC c line with
    | none =>
      rw [drop_none hokc hat]
      have hq : (findP c line).2.2 = false := by rw [findP_eq hokc, hat]; split <;> rfl
      rw [hq] at HFD
      clear hokc hq hok k1 k2 k3
      generalize (findP c line).1 = p1 at HFD
      generalize (findP c line).2.1 = p2 at HFD
      go_enter Tryz.func166, Tryz.ntmps166
      go_wp2_with fail
      generalize (w.alloc (.cells #[.slice a c.1.length cap, .slice b c.2.length cp] 27)).alloc (.cells #[.slice none 0 0, .slice none 0 0] 27) = W0 at X Y B e0 ⊢
      refine (HOK.out _ B).mono ?_
      rintro e w1 ⟨rfl, b1⟩
      have z1 := b1.size
      replace B := below_step B b1
      replace Y := row_keep b1 Y
      replace X := row_keep b1 X
      clear b1 HOK
      obtain ⟨x0, x1⟩ := cells_two X
      go_wp2_with fail
      refine (CP.out _ B).mono ?_
      rintro e w2 ⟨av, cv, bv, dv, rfl, mm⟩
      have z2 := mm.2.size
      obtain ⟨u', v', S1, S2, he, o1, o2, a1, a2, dd⟩ := cache_own mm.1
      simp only [List.cons.injEq, and_true] at he
      obtain ⟨rfl, rfl⟩ := he
      replace B := below_step B mm.2
      replace Y := row_keep mm.2 Y
      clear mm CP X x0 x1
      go_wp2_with fail
      have O := heap_at w2 (.cells #[.slice av c.1.length cv, .slice bv c.2.length dv] 27)
      replace B := below_step B (box_below w2 (.cells #[.slice av c.1.length cv, .slice bv c.2.length dv] 27))
      replace Y := heap_on (.cells #[.slice av c.1.length cv, .slice bv c.2.length dv] 27) Y
      replace o1 := own_box (.cells #[.slice av c.1.length cv, .slice bv c.2.length dv] 27) o1
      replace o2 := own_box (.cells #[.slice av c.1.length cv, .slice bv c.2.length dv] 27) o2
      have e3 : (w2.alloc (.cells #[.slice av c.1.length cv, .slice bv c.2.length dv] 27)).heap.size = w2.heap.size + 1 := by simp
      generalize w2.alloc (.cells #[.slice av c.1.length cv, .slice bv c.2.length dv] 27) = w3 at B Y O o1 o2 e3 ⊢
      obtain ⟨a9, c9, e9, hrd⟩ := sets_rd o1
      simp only [Value.slice.injEq, true_and] at e9
      obtain ⟨rfl, rfl⟩ := e9
      refine (HFD.out _ _ _ _ _ hrd).mono ?_
      rintro e w4 ⟨rfl, b1⟩
      have z3 := b1.size
      replace B := below_step B b1
      replace Y := row_keep b1 Y
      replace O := row_keep b1 O
      replace o1 := setsR.own_keep o1 (keeps_below b1)
      replace o2 := intsR.own_keep o2 (keeps_below b1)
      obtain ⟨y0, y1⟩ := cells_two Y
      obtain ⟨f0, f1⟩ := cells_froz2 Y
      obtain ⟨p0, p1'⟩ := cells_two O
      have ly := (Array.getElem?_eq_some_iff.1 Y).1
      have lo := (Array.getElem?_eq_some_iff.1 O).1
      have HK : Hid _ := And.intro o1 (And.intro o2 (And.intro Y B))
      have HA : Hid _ := And.intro a1 (And.intro a2 dd)
      clear o1 o2 O Y B a1 a2 dd b1 hrd HFD
      go_wp2
      obtain ⟨o1, o2, Y, B⟩ := HK.out
      obtain ⟨a1, a2, dd⟩ := HA.out
      obtain ⟨r0, r1⟩ := cell_two (heap_on (.cells #[.int .i64 p1, .int .i64 p2] 143) (put2 (a := .slice av c.1.length cv) (b := .slice bv c.2.length dv) Y))
      refine bodyPost_ret (v := .tuple #[.agg #[.slice av c.1.length cv, .slice bv c.2.length dv], .bool false]) (by simp [results, Tryz.results166, go_sem, r0, r1]) rfl ⟨av, cv, bv, dv, rfl, madeR_on (ret_cache o1 o2 (fun k h => ?_) (fun k h => ?_) dd B) (box_below _ _)⟩
      · have := (a1 k h).1
        have := (a1 k h).2
        exact ⟨by omega, by omega⟩
      · have := (a2 k h).1
        have := (a2 k h).2
        exact ⟨by omega, by omega⟩
    | some fi =>
      obtain ⟨hl0, uw, huw, hul⟩ := at_some hat
      obtain ⟨hp, hget, hne0, hr4, hset, hsl⟩ := ok_row hokc line
      have hb : betw line 0 15 = true := by
        cases hbb : betw line 0 15
        · rw [at_out hokc hbb] at hat
          cases hat
        · rfl
      rw [drop_some hokc hat]
      have hq : findP c line = (((setNo c line : Nat) : Int), (fi : Int), true) := by rw [findP_eq hokc, if_pos hb, hat]; rfl
      rw [hq] at HFD
      have HG : Hid _ := And.intro hget (And.intro huw (And.intro k1 hr4))
      show Calls Tryz.prog 166 _ w fun e w' => ∃ av cv bv dv, e = .returned (.tuple #[.agg #[.slice av (c.1.set (setNo c line) ((rowFor c line).set fi emptyW)).length cv, .slice bv c.2.length dv], .bool true]) ∧ MadeR cacheR w w' [.slice av (c.1.set (setNo c line) ((rowFor c line).set fi emptyW)).length cv, .slice bv c.2.length dv] (c.1.set (setNo c line) ((rowFor c line).set fi emptyW), c.2)
      rw [List.length_set]
      clear hokc hq hok k1 k2 k3 hget huw hul hp hne0 hr4 hset hsl hb hat hl0
      generalize rowFor c line = row at *
      generalize setNo c line = sn at *
      go_enter Tryz.func166, Tryz.ntmps166
      go_wp2_with fail
      generalize (w.alloc (.cells #[.slice a c.1.length cap, .slice b c.2.length cp] 27)).alloc (.cells #[.slice none 0 0, .slice none 0 0] 27) = W0 at X Y B e0 ⊢
      refine (HOK.out _ B).mono ?_
      rintro e w1 ⟨rfl, b1⟩
      have z1 := b1.size
      replace B := below_step B b1
      replace Y := row_keep b1 Y
      replace X := row_keep b1 X
      clear b1 HOK
      obtain ⟨x0, x1⟩ := cells_two X
      go_wp2_with fail
      refine (CP.out _ B).mono ?_
      rintro e w2 ⟨av, cv, bv, dv, rfl, mm⟩
      have z2 := mm.2.size
      obtain ⟨u', v', S1, S2, he, o1, o2, a1, a2, dd⟩ := cache_own mm.1
      simp only [List.cons.injEq, and_true] at he
      obtain ⟨rfl, rfl⟩ := he
      replace B := below_step B mm.2
      replace Y := row_keep mm.2 Y
      clear mm CP X x0 x1
      go_wp2_with fail
      have O := heap_at w2 (.cells #[.slice av c.1.length cv, .slice bv c.2.length dv] 27)
      replace B := below_step B (box_below w2 (.cells #[.slice av c.1.length cv, .slice bv c.2.length dv] 27))
      replace Y := heap_on (.cells #[.slice av c.1.length cv, .slice bv c.2.length dv] 27) Y
      replace o1 := own_box (.cells #[.slice av c.1.length cv, .slice bv c.2.length dv] 27) o1
      replace o2 := own_box (.cells #[.slice av c.1.length cv, .slice bv c.2.length dv] 27) o2
      have e3 : (w2.alloc (.cells #[.slice av c.1.length cv, .slice bv c.2.length dv] 27)).heap.size = w2.heap.size + 1 := by simp
      generalize w2.alloc (.cells #[.slice av c.1.length cv, .slice bv c.2.length dv] 27) = w3 at B Y O o1 o2 e3 ⊢
      obtain ⟨a9, c9, e9, hrd⟩ := sets_rd o1
      simp only [Value.slice.injEq, true_and] at e9
      obtain ⟨rfl, rfl⟩ := e9
      refine (HFD.out _ _ _ _ _ hrd).mono ?_
      rintro e w4 ⟨rfl, b1⟩
      go_wp2
      have bz := box_below w4 (.cells #[.int .i64 (sn : Int), .int .i64 (fi : Int)] 143)
      have Z := heap_at w4 (.cells #[.int .i64 (sn : Int), .int .i64 (fi : Int)] 143)
      have b2 := below_step b1 bz
      have z3 := b1.size
      have z4 : (w4.alloc (.cells #[.int .i64 (sn : Int), .int .i64 (fi : Int)] 143)).heap.size = w4.heap.size + 1 := by simp
      replace B := below_step B b2
      replace Y := row_keep b2 Y
      replace O := row_keep b2 O
      replace o1 := setsR.own_keep o1 (keeps_below b2)
      replace o2 := intsR.own_keep o2 (keeps_below b2)
      clear b1 bz b2 hrd HFD
      generalize w4.alloc (.cells #[.int .i64 (sn : Int), .int .i64 (fi : Int)] 143) = w5 at *
      obtain ⟨p0, p1⟩ := cells_two O
      obtain ⟨q0, q1⟩ := cells_two Z
      have HK : Hid (setsR.own w5 S1 [.slice av c.1.length cv] c.1 ∧ intsR.own w5 S2 [.slice bv c.2.length dv] c.2 ∧ w5.heap[w.heap.size + 1]? = some (.cells #[.slice none 0 0, .slice none 0 0] 27 (0, 0)) ∧ w5.heap[w2.heap.size]? = some (.cells #[.slice av c.1.length cv, .slice bv c.2.length dv] 27 (0, 0)) ∧ w5.heap[w4.heap.size]? = some (.cells #[.int .i64 (sn : Int), .int .i64 (fi : Int)] 143 (0, 0)) ∧ Below w.heap.size w w5) := ⟨o1, o2, Y, O, Z, B⟩
      have HA : Hid (Sub S1 (rng w1.heap.size w2.heap.size) ∧ Sub S2 (rng w1.heap.size w2.heap.size) ∧ Dis S1 S2) := ⟨a1, a2, dd⟩
      clear o1 o2 O Y Z B a1 a2 dd
      go_region_held3 (fun wx => wx.cell? ⟨w2.heap.size, 0, none⟩ = some (.slice av c.1.length cv) ∧ wx.cell? ⟨w2.heap.size, 1, none⟩ = some (.slice bv c.2.length dv) ∧ wx.cell? ⟨w4.heap.size, 0, none⟩ = some (.int .i64 (sn : Int)) ∧ wx.cell? ⟨w4.heap.size, 1, none⟩ = some (.int .i64 (fi : Int))) (first | (go_keep; done)) (first | (go_at_call 53; refine (emptyWay_any _).mono ?_; rintro e w9 ⟨ad, cpw, rfl, mm⟩; have O9 := row_keep (w := w5.drew) mm.2 HK.out.2.2.2.1; have Z9 := row_keep (w := w5.drew) mm.2 HK.out.2.2.2.2.1; have Y9 := row_keep (w := w5.drew) mm.2 HK.out.2.2.1; obtain ⟨p0', p1'⟩ := cells_two O9; obtain ⟨q0', q1'⟩ := cells_two Z9; have N1 : setsR.own w9 S1 [.slice av c.1.length cv] c.1 := setsR.own_keep (w := w5.drew) (setsR.own_keep HK.out.1 (fun k _ _ => rfl)) (keeps_below mm.2); have N2 : intsR.own w9 S2 [.slice bv c.2.length dv] c.2 := intsR.own_keep (w := w5.drew) (intsR.own_keep HK.out.2.1 (fun k _ _ => rfl)) (keeps_below mm.2); have B9 : Below w.heap.size w w9 := below_step HK.out.2.2.2.2.2.drew mm.2; have z9 : w5.heap.size ≤ w9.heap.size := mm.2.size; have HN : Hid _ := And.intro O9 (And.intro Z9 (And.intro Y9 (And.intro N1 (And.intro N2 B9)))); clear O9 Z9 Y9 N1 N2 B9 mm) | (go_at_call 152; refine (implPutWay_any S1 _ _ c.1 sn fi row uw (-1) 0 [] ad cpw _ HN.out.2.2.2.1 HG.out.1 HG.out.2.1 (by have := HG.out.2.2.1; omega) (by have := HG.out.2.2.2; omega) (by constructor <;> decide) (by constructor <;> decide) (.inl rfl) (by simp)).mono ?_; rintro e w10 ⟨rfl, M1, CH⟩; obtain ⟨O9, Z9, Y9, N1, N2, B9⟩ := HN.out; obtain ⟨a1, a2, dd⟩ := HA.out; have nS : ∀ x, ¬ (w1.heap.size ≤ x ∧ x < w2.heap.size) → ¬ Old w9 S1 x := fun x hx h => hx ⟨(a1 x h.1).1, (a1 x h.1).2⟩; have z10 := CH.size; replace O9 := (CH.block _ (by omega) (nS w2.heap.size (by omega))).trans O9; replace Z9 := (CH.block _ (by omega) (nS w4.heap.size (by omega))).trans Z9; replace Y9 := (CH.block _ (by omega) (nS (w.heap.size + 1) (by omega))).trans Y9; replace N2 := own_chg N2 CH (fun x h1 h2 => dd x h2.1 h1); replace B9 := CH.below B9 (fun x h => by have := (a1 x h.1).1; omega) (by omega); obtain ⟨p0', p1'⟩ := cells_two O9; obtain ⟨q0', q1'⟩ := cells_two Z9; obtain ⟨y0, y1⟩ := cells_two Y9; obtain ⟨f0, f1⟩ := cells_froz2 Y9; have HN2 : Hid _ := And.intro Y9 (And.intro M1 (And.intro N2 B9)); clear O9 Z9 Y9 N1 N2 B9 nS CH M1 a1 a2 dd))
      all_goals
        go_wp2
        obtain ⟨Y, M1, o2, B⟩ := HN2.out
        obtain ⟨a1, a2, dd⟩ := HA.out
        obtain ⟨r0, r1⟩ := cell_two (put2 (a := .slice av c.1.length cv) (b := .slice bv c.2.length dv) Y)
        refine bodyPost_ret (v := .tuple #[.agg #[.slice av c.1.length cv, .slice bv c.2.length dv], .bool true]) (by simp [results, Tryz.results166, go_sem, r0, r1]) rfl ⟨av, cv, bv, dv, rfl, ret_cache M1 o2 (fun k h => ?_) (fun k h => ?_) (fun k h ht => ?_) B⟩
        · rcases h with h | h
          · have := (a1 k h.1).1
            have := (a1 k h.1).2
            exact ⟨by omega, by omega⟩
          · exact ⟨by omega, by omega⟩
        · have := (a2 k h).1
          have := (a2 k h).2
          exact ⟨by omega, by omega⟩
        · rcases h with h | h
          · exact dd k h.1 ht
          · have := (a2 k ht).2
            omega
end Go.Proofs.YthbclkpmgcfdnaaGreatDoor
/- How much a right store holds, and what is left of one that a line is dropped out of. No program here. -/
namespace Go.Proofs.YthbclkpmgcfdnaaGreatDoor
open Go.RowKit
set_option linter.unusedVariables false
theorem sumbk_le {α : Type} {M : Mk α} {K : Nat} : ∀ {xs : List α}, (∀ x ∈ xs, M.bk x ≤ K) → sumbk M xs ≤ xs.length * K
  | [], _ => by simp [sumbk]
  | x :: xs, h => by
    have h1 := sumbk_le (xs := xs) (fun y hy => h y (List.mem_cons_of_mem _ hy))
    have h2 := h x (List.mem_cons_self ..)
    have h3 : sumbk M (x :: xs) = M.bk x + sumbk M xs := by simp [sumbk]
    rw [h3, List.length_cons, Nat.add_mul]
    omega
theorem ok_bk {c : CacheD} (h : OkC isL treeB c) : cacheM.bk c ≤ 1000 := by
  have h' := h
  obtain ⟨h1, h2, m, hm, h3⟩ := h
  unfold pow3 at h1 hm
  have hw : ∀ row ∈ c.1, waysM.bk row ≤ 12 := fun row hr => by
    obtain ⟨s, hs⟩ := List.getElem?_of_mem hr
    have hl := (h3 s row hs).1
    have hu : ∀ u ∈ row, wayM.bk u ≤ 2 := fun u hu => by
      obtain ⟨j, hj⟩ := List.getElem?_of_mem hu
      have h5 := ok_len h' hs hj
      have h6 : wayM.bk u = 0 + (0 + (u.2.2.length + sumbk intM u.2.2)) := rfl
      have h7 := sumbk_ints u.2.2
      omega
    have h8 := sumbk_le hu
    have h9 : waysM.bk row = row.length + sumbk wayM row := rfl
    have h10 : row.length * 2 ≤ 8 := by omega
    omega
  have h8 := sumbk_le hw
  have hbk : cacheM.bk c = setsM.bk c.1 + intsM.bk c.2 := rfl
  have h6 : setsM.bk c.1 = c.1.length + sumbk waysM c.1 := rfl
  have h7 : intsM.bk c.2 = c.2.length + sumbk intM c.2 := rfl
  have h9 := sumbk_ints c.2
  have h10 : c.1.length * 12 ≤ 48 := by omega
  omega
end Go.Proofs.YthbclkpmgcfdnaaGreatDoor
/- One tree of a store set anew, of the program. Condition: a tree that is right, a store that is owned. -/
namespace Go.Proofs.YthbclkpmgcfdnaaGreatDoor
open Go.ChangeShapes Go.WideShapes Go.ChangeAt Go.RowKit Go.Shelf
set_option linter.unusedVariables false
theorem tou_ok {t n y : Int} (h : treeB t n = true) (h0 : 0 ≤ y) (h1 : y < n) : treeB (touI t n y) n = true := by
  simp only [treeB, decide_eq_true_eq] at h
  rcases h with ⟨rfl, rfl⟩ | ⟨rfl, a, b⟩ | ⟨rfl, a, b⟩
  · obtain rfl : y = 0 := by omega
    decide
  · rcases (by omega : t = 0 ∨ t = 1) with rfl | rfl <;> rcases (by omega : y = 0 ∨ y = 1) with rfl | rfl <;> decide
  · rcases (by omega : t = 0 ∨ t = 1 ∨ t = 2 ∨ t = 3 ∨ t = 4 ∨ t = 5 ∨ t = 6 ∨ t = 7) with rfl | rfl | rfl | rfl | rfl | rfl | rfl | rfl <;> rcases (by omega : y = 0 ∨ y = 1 ∨ y = 2 ∨ y = 3) with rfl | rfl | rfl | rfl <;> decide
theorem tree_in64 {t n : Int} (h : treeB t n = true) : In64 t := by
  simp only [treeB, decide_eq_true_eq] at h
  constructor <;> omega
theorem tu_tou {t n y : Int} (h : treeB t n = true) (h0 : 0 ≤ y) (h1 : y < n) : tuI t n y = touI t n y := by
  unfold tuI
  rw [h, if_pos]
  simp [betw]
  omega
theorem own_num {w : World} {S : Foot} {v : Value} {xs : List Int} {j : Nat} {x : Int} (h : intsR.own w S [v] xs) (hx : xs[j]? = some x) :
    ∃ g cap, v = .slice (some ⟨g, 0, none⟩) xs.length cap ∧ S g ∧ g < w.heap.size ∧ w.cell? ⟨g, j, none⟩ = some (.int .i64 x) ∧
      ∀ w1 y, Below w.heap.size w w1 → In64 y → w1.cell? ⟨g, j, none⟩ = some (.int .i64 x) ∧ w1.frozen? ⟨g, j, none⟩ = false ∧ intsR.own (w1.setCell ⟨g, j, none⟩ (.int .i64 y)) S [v] (xs.set j y) ∧ Chg (fun k => k = g) w (w1.setCell ⟨g, j, none⟩ (.int .i64 y)) := by
  obtain ⟨g, cap, cur, Sj, T, c, hv, hSg, hg, hc, hcl, ho, s1, s2, hd, n1, n2, back⟩ := slown_focus h hx
  have e1 : intR.size = 1 := rfl
  simp only [e1, Nat.mul_one] at hc back
  have hcx : c = [.int .i64 x] := ho.1
  subst hcx
  have hck : cur[j]? = some (.int .i64 x) := by simpa using hc 0 (by decide)
  have kl := (Array.getElem?_eq_some_iff.1 hck).1
  have hgl := (Array.getElem?_eq_some_iff.1 hg).1
  refine ⟨g, cap, hv, hSg, hgl, by rw [cell_of_row w g j _ _ (0, 0) hg]; exact hck, fun w1 y hb hy => ?_⟩
  have hg1 := row_keep hb hg
  have hch : Chg (fun k => k = g) w (w1.setCell ⟨g, j, none⟩ (.int .i64 y)) :=
    (chg_below (S := fun k => k = g) hb).trans (chg_grown (grown_at w1 g j _) rfl)
  refine ⟨by rw [cell_of_row w1 g j _ _ (0, 0) hg1]; exact hck, frozen_of_row w1 g j _ _ hg1, ?_, hch⟩
  refine back _ (cur.setIfInBounds j (.int .i64 y)) [.int .i64 y] y (fun _ => False) S (heap_setCell_same w1 g j _ _ _ hg1) (by simp) ?_ ?_ ?_ ⟨rfl, hy⟩ (fun _ hk _ => hk) (fun hk => hk) hSg (fun _ hk => hk.elim) s2
  · intro i hi
    rw [Array.getElem?_setIfInBounds_ne (by omega)]
  · intro i hi
    have : i = 0 := by omega
    subst this
    simp [kl]
  · intro k hk hl
    exact hch.block k hl fun e => n2 (by have e' : k = g := e; rw [← e']; exact hk)

set_option maxRecDepth 8000 in
set_option maxHeartbeats 4000000 in
theorem implTouch_any (S : Foot) (b0 o0 n cap : Nat) (v : Value) (ts : List Int) (sn fi m : Nat) (t : Int) (a1 : Option Addr) (c1 : Nat) (w : World) (hn : 0 < n) (hw : w.cell? ⟨b0, o0, none⟩ = some (.slice a1 m c1)) (h : intsR.own w S [v] ts) (ht : ts[sn]? = some t) (hlen : ts.length ≤ maxLen) (htr : treeB t m = true) (hf : fi < m) :
    Calls Tryz.prog 193 #[.agg #[.slice (some ⟨b0, o0, none⟩) n cap, v], .agg #[.int .i64 (sn : Int), .int .i64 (fi : Int)]] w fun e w' => e = .returned (.tuple #[]) ∧
      intsR.own w' S [v] (ts.set sn (touI t m fi)) ∧ ∃ g, S g ∧ g < w.heap.size ∧ Chg (fun k => k = g) w w' := by
  have hsl : sn < ts.length := (List.getElem?_eq_some_iff.1 ht).1
  have hsl' : (sn : Int) < (ts.length : Int) := by omega
  obtain ⟨g, cpv, rfl, hSg, hgl, hcell, step⟩ := own_num h ht
  have HT : Hid (∀ W, Calls Tryz.prog 208 #[.int .i64 t, .int .i64 (m : Int), .int .i64 (fi : Int)] W fun e w' => e = .returned (.int .i64 (touI t m fi)) ∧ w' = W) := fun W => by
    have := implTouched_any t m fi W
    rwa [tu_tou htr (by omega) (by omega)] at this
  have hy : In64 (touI t m fi) := tree_in64 (tou_ok htr (by omega) (by omega))
  generalize touI t m fi = y at HT hy ⊢
  have ST : Hid _ := step
  clear step h
  have B0 := below_step (box_below w (.cells #[.slice (some ⟨b0, o0, none⟩) n cap, .slice (some ⟨g, 0, none⟩) ts.length cpv] 27)) (box_below _ (.cells #[.int .i64 (sn : Int), .int .i64 (fi : Int)] 143))
  have X0 := heap_on (.cells #[.int .i64 (sn : Int), .int .i64 (fi : Int)] 143) (heap_at w (.cells #[.slice (some ⟨b0, o0, none⟩) n cap, .slice (some ⟨g, 0, none⟩) ts.length cpv] 27))
  have Y0 := heap_at (w.alloc (.cells #[.slice (some ⟨b0, o0, none⟩) n cap, .slice (some ⟨g, 0, none⟩) ts.length cpv] 27)) (.cells #[.int .i64 (sn : Int), .int .i64 (fi : Int)] 143)
  rw [alloc_len] at Y0
  go_enter Tryz.func193, Tryz.ntmps193
  go_wp2
  generalize (w.alloc (.cells #[.slice (some ⟨b0, o0, none⟩) n cap, .slice (some ⟨g, 0, none⟩) ts.length cpv] 27)).alloc (.cells #[.int .i64 (sn : Int), .int .i64 (fi : Int)] 143) = W0 at B0 X0 Y0 ⊢
  obtain ⟨x0, x1⟩ := cells_two X0
  obtain ⟨y0, y1⟩ := cells_two Y0
  have q0 := cell_keep B0 hw (cell_lt hw)
  have q1 := cell_keep B0 hcell hgl
  have m0 : ∀ n' : Cls (fun wx => Below W0.heap.size W0 wx), n'.w.cell? ⟨w.heap.size, 0, none⟩ = some (.slice (some ⟨b0, o0, none⟩) n cap) := fun n' => cell_keep n'.h x0 (cell_lt x0)
  have m1 : ∀ n' : Cls (fun wx => Below W0.heap.size W0 wx), n'.w.cell? ⟨w.heap.size, 1, none⟩ = some (.slice (some ⟨g, 0, none⟩) ts.length cpv) := fun n' => cell_keep n'.h x1 (cell_lt x1)
  have m2 : ∀ n' : Cls (fun wx => Below W0.heap.size W0 wx), n'.w.cell? ⟨w.heap.size + 1, 0, none⟩ = some (.int .i64 (sn : Int)) := fun n' => cell_keep n'.h y0 (cell_lt y0)
  have m3 : ∀ n' : Cls (fun wx => Below W0.heap.size W0 wx), n'.w.cell? ⟨w.heap.size + 1, 1, none⟩ = some (.int .i64 (fi : Int)) := fun n' => cell_keep n'.h y1 (cell_lt y1)
  have Q0 : Hid (∀ n' : Cls (fun wx => Below W0.heap.size W0 wx), n'.w.cell? ⟨b0, o0, none⟩ = some (.slice a1 m c1)) := fun n' => cell_keep n'.h q0 (cell_lt q0)
  have m4 : ∀ n' : Cls (fun wx => Below W0.heap.size W0 wx), n'.w.cell? ⟨g, sn, none⟩ = some (.int .i64 t) := fun n' => cell_keep n'.h q1 (cell_lt q1)
  have HB : Hid _ := B0
  clear x0 x1 y0 y1 q0 q1 X0 Y0 B0 hw hcell
  refine region_last (fun wx => Below W0.heap.size W0 wx) (by kernel_rfl) (by kernel_rfl) (by kernel_rfl) (by simp) ((Below.refl _ W0).drew) ?_
  intro hne
  dsimp only [List.dropLast, lastO]
  repeat (quiet_step (first | (go_at_call 165; exact calls_class (ways_any b0 o0 n cap _ _ _ _ rfl a1 m c1 _ hn (Q0.out _)) (fun w' hc bb => below_step hc bb)) | (go_at_call 208; exact calls_class_same (HT.out _))))
  refine wpQuiet_nil ?_
  intro wx b2
  clear m0 m1 m2 m3 m4 hne
  obtain ⟨r0, r1, r2, r3⟩ := ST.out wx y (below_step HB.out b2) hy
  have HR : Hid _ := And.intro r2 r3
  clear r2 r3
  unfold Oper.wp
  go_simp
  refine bodyPost_end (v := .tuple #[]) (by simp [results, Tryz.results193, go_sem]) rfl ⟨rfl, HR.out.1, g, hSg, hgl, HR.out.2⟩
end Go.Proofs.YthbclkpmgcfdnaaGreatDoor
/- A core, what it begins and what it gets, and that it stays right: plain facts. -/
namespace Go.Proofs.YthbclkpmgcfdnaaGreatDoor
set_option linter.unusedVariables false
def mKind (m : MsgD) : Int := m.2.2.2.1
def mLine (m : MsgD) : Int := m.2.2.2.2.1
def mData (m : MsgD) : List Int := m.2.2.2.2.2.1
def mFlag (m : MsgD) : Int := m.2.2.2.2.2.2
def msg (road frm tgt kind line : Int) (data : List Int) (flag : Int) : MsgD := (road, frm, tgt, kind, line, data, flag)
abbrev opOk (o : OpD) : Bool := opOkD o
def opWr (o : OpD) : Bool := opOk o && decide (o.1 ≠ 1)
def opLine (o : OpD) : Int := o.2.1 / 2
def opDo (o : OpD) (z : Int) : Int × Int := (opThen o.1 o.2.2.1 o.2.2.2 z, opTold o.1 z)
theorem env_tou : ∀ t n y : Int, treeB t n = true → 0 ≤ y → y < n → treeB (touI t n y) n = true := fun _ _ _ h0 h1 h2 => tou_ok h0 h1 h2
theorem env_vic : ∀ t n : Int, treeB t n = true → 0 ≤ goI t n ∧ goI t n < n := fun _ _ h => ⟨(go_in h).1, (go_in h).2.1⟩
structure CoreS where
  cache : CacheD
  prog : List OpD
  at_ : Int
  phase : Int
  held : WayD
  told : List Int
  deriving DecidableEq
def wayOf (c : CacheD) (k : Int) : WayD := match atC c k with
  | some j => (rowFor c k).getD j emptyW
  | none => emptyW
def fillS (c : CacheD) (u : WayD) : Option CacheD := if fullB isL u then (match putNo c u.1 with
  | some j => some (fillX touI c u j)
  | none => none) else none
def dropS (c : CacheD) (k : Int) : CacheD := match atC c k with
  | some j => dropX c k j
  | none => c
def setS (c : CacheD) (k : Int) (u : WayD) : CacheD := match atC c k with
  | some j => (c.1.set (setNo c k) ((rowFor c k).set j u), c.2)
  | none => c
def leavesS (c : CacheD) (k : Int) : Int := match putNo c k with
  | some _ => -1
  | none => ((rowFor c k).getD (goI (treeFor c k) (rowFor c k).length).toNat emptyW).1
def opAt (c : CoreS) : OpD := c.prog.getD c.at_.toNat (0, 0, 0, 0)
/-- The next op is done tgt what is there, where it may be. -/
def doS (c : CoreS) (u : WayD) : Option CoreS :=
  let o := opAt c
  if asksI u.2.1 (opWr o) = 0 then
    let r := opDo o (u.2.2.getD (o.2.1 % 2).toNat 0)
    match fillS c.cache (u.1, (if opWr o then 3 else u.2.1), u.2.2.set (o.2.1 % 2).toNat r.1) with
    | some cc => some { c with cache := cc, told := c.told ++ [r.2], at_ := c.at_ + 1 }
    | none => none
  else none
def beginS (c : CoreS) (id : Int) : CoreS × List MsgD × Int :=
  if c.phase ≠ 0 ∨ c.at_ = c.prog.length then (c, [], 0) else
  let o := opAt c
  let k := opLine o
  let u := wayOf c.cache k
  if asksI u.2.1 (opWr o) = 0 then ((doS c u).getD c, [], 1)
  else if 0 ≤ leavesS c.cache k then
    let out := leavesS c.cache k
    let h := wayOf c.cache out
    ({ c with held := h, cache := dropS c.cache out, phase := 1 }, [if 2 ≤ h.2.1 then msg 0 id 4 3 out h.2.2 1 else msg 0 id 4 3 out [] 0], 2)
  else ({ c with phase := 2 }, [msg 0 id 4 (if asksI u.2.1 (opWr o) = 2 then 2 else 1) k [] 0], 3)
/-- Another one reads (6), or writes (7). -/
def askedS (c : CoreS) (id : Int) (m : MsgD) : CoreS × MsgD :=
  let k := mLine m
  let u := wayOf c.cache k
  match atC c.cache k with
  | some _ =>
    let kd : Int := if 2 ≤ u.2.1 then 8 else 9
    let d := if 2 ≤ u.2.1 then u.2.2 else []
    if mKind m = 7 then ({ c with cache := dropS c.cache k }, msg 2 id 4 kd k d 1)
    else ({ c with cache := if 2 ≤ u.2.1 then setS c.cache k (u.1, 1, u.2.2) else c.cache }, msg 2 id 4 kd k d 0)
  | none =>
    if c.phase = 1 ∧ c.held.1 = k ∧ c.held.2.1 ≠ 0 then
      if 2 ≤ c.held.2.1 then ({ c with held := (k, 0, []) }, msg 2 id 4 8 k c.held.2.2 1)
      else if mKind m = 6 then (c, msg 2 id 4 9 k [] 0)
      else ({ c with held := (k, 0, []) }, msg 2 id 4 9 k [] 1)
    else (c, msg 2 id 4 9 k [] 1)
def getS (c : CoreS) (id : Int) (m : MsgD) : CoreS × List MsgD × Int :=
  if mKind m = 6 ∨ mKind m = 7 then
    if betw (mLine m) 0 15 then ((askedS c id m).1, [(askedS c id m).2], 1) else (c, [], 0)
  else if mKind m = 12 then
    if c.phase ≠ 1 ∨ c.held.1 ≠ mLine m then (c, [], 0) else ({ c with phase := 0, held := emptyW }, [], 1)
  else if mKind m = 11 then
    if c.phase ≠ 2 ∨ opLine (opAt c) ≠ mLine m ∨ isL (mData m) = false ∨ betw (mFlag m) 1 3 = false then (c, [], 0)
    else match doS c (mLine m, mFlag m, mData m) with
      | some c' => ({ c' with phase := 0 }, [msg 2 id 4 10 (mLine m) [] 0], 2)
      | none => (c, [], 0)
  else (c, [], 0)
abbrev okc (c : CacheD) : Prop := OkC isL treeB c
theorem way_find {c : CacheD} (h : okc c) (k : Int) : (findC isL treeB c k).1 = wayOf c k := by
  unfold findC wayOf
  rw [if_pos (okB_iff.2 h)]
  cases atC c k <;> rfl
theorem way_none {c : CacheD} {k : Int} (h : atC c k = none) : wayOf c k = emptyW := by unfold wayOf; rw [h]
theorem way_some {c : CacheD} {k : Int} {j : Nat} (h : atC c k = some j) : wayOf c k = (rowFor c k).getD j emptyW := by unfold wayOf; rw [h]
theorem row_ok {c : CacheD} (h : okc c) (k : Int) : RowOk isL c.1.length (setNo c k) (rowFor c k) := by
  obtain ⟨h1, h2, m, hm, h3⟩ := h
  exact (h3 _ _ (rowFor_get h1)).2.2
theorem way_at {c : CacheD} (h : okc c) {k : Int} {j : Nat} (ha : atC c k = some j) : 0 ≤ k ∧ (rowFor c k)[j]? = some (wayOf c k) ∧ (wayOf c k).1 = k ∧ fullB isL (wayOf c k) = true := by
  obtain ⟨h0, u, hu, he⟩ := at_some ha
  have e : wayOf c k = u := by rw [way_some ha, getD_of hu]
  rw [e]
  refine ⟨h0, hu, he, ?_⟩
  rcases (row_ok h k).1 j u hu with hc | ⟨hf, _⟩
  · have := clear_eq hc; rw [this] at he; simp [emptyW] at he; omega
  · exact hf
theorem full_parts {u : WayD} (h : fullB isL u = true) : (0 ≤ u.1 ∧ u.1 ≤ 15) ∧ (1 ≤ u.2.1 ∧ u.2.1 ≤ 3) ∧ isL u.2.2 = true := by simpa [fullB] using h
/-- Either it is there, whole, or nothing is. -/
theorem way_or {c : CacheD} (h : okc c) (k : Int) : (atC c k = none ∧ wayOf c k = emptyW) ∨ (∃ j, atC c k = some j) ∧ 0 ≤ k ∧ (wayOf c k).1 = k ∧ fullB isL (wayOf c k) = true := by
  cases ha : atC c k with
  | none => exact .inl ⟨rfl, way_none ha⟩
  | some j => obtain ⟨h0, _, h1, h2⟩ := way_at h ha; exact .inr ⟨⟨j, rfl⟩, h0, h1, h2⟩
theorem way_st {c : CacheD} (h : okc c) (k : Int) : (0 ≤ (wayOf c k).2.1 ∧ (wayOf c k).2.1 ≤ 3) ∧ ((wayOf c k).2.1 = 0 ↔ atC c k = none) := by
  rcases way_or h k with ⟨h1, h2⟩ | ⟨⟨j, hj⟩, _, _, hf⟩
  · rw [h2]; simp [emptyW, h1]
  · have := full_parts hf; rw [hj]; simp; omega
theorem fill_way {c c' : CacheD} {u : WayD} (h : okc c) (hf : fillS c u = some c') : okc c' ∧ fullB isL u = true ∧ wayOf c' u.1 = u ∧ (∀ k, 0 ≤ k → k ≠ u.1 → wayOf c' k = wayOf c k) ∧ c'.1.length = c.1.length := by
  unfold fillS at hf
  split at hf
  · rename_i hu
    cases hp : putNo c u.1 with
    | none => rw [hp] at hf; cases hf
    | some j =>
      rw [hp] at hf
      injection hf with hf
      subst hf
      have hok := (fill_ok (ln := isL) (tok := treeB) env_tou h hu hp).1
      refine ⟨hok, hu, ?_, fun k h0 hne => ?_, by simp [fillX]⟩
      · have := fill_found (ln := isL) (tok := treeB) env_tou h hu hp
        rw [← way_find hok, this]
      · have := fill_other (ln := isL) (tok := treeB) env_tou h hu hp hne h0
        rw [← way_find hok, ← way_find h, this]
  · cases hf
theorem fill_room {c : CacheD} {u : WayD} (hu : fullB isL u = true) (hp : putNo c u.1 ≠ none) : ∃ c', fillS c u = some c' := by
  unfold fillS
  rw [if_pos hu]
  cases h : putNo c u.1 with
  | none => exact absurd h hp
  | some j => exact ⟨_, rfl⟩
theorem room_at {c : CacheD} {k : Int} (h : (∃ j, atC c k = some j) ∨ ∃ j, roomC c k = some j) : putNo c k ≠ none := by
  unfold putNo
  cases ha : atC c k with
  | some j => simp
  | none =>
    rcases h with ⟨j, hj⟩ | ⟨j, hj⟩
    · rw [ha] at hj; cases hj
    · simp [hj]
/-- One way of a row set anew: what is there of its line, and of all others. -/
theorem put_way {c : CacheD} (h : okc c) {k : Int} {j : Nat} (ha : atC c k = some j) {x : WayD} (hx : x = emptyW ∨ (fullB isL x = true ∧ x.1 = k)) :
    let c' : CacheD := (c.1.set (setNo c k) ((rowFor c k).set j x), c.2)
    okc c' ∧ wayOf c' k = x ∧ (∀ l, 0 ≤ l → l ≠ k → wayOf c' l = wayOf c l) ∧ (∀ l, putNo c l ≠ none → putNo c' l ≠ none) ∧ (x = emptyW → ∀ l, setNo c l = setNo c k → putNo c' l ≠ none) ∧ c'.1.length = c.1.length := by
  intro c'
  obtain ⟨h0, hu, he, hfu⟩ := way_at h ha
  have hlt := (List.getElem?_eq_some_iff.1 hu).1
  obtain ⟨h1, h2, m, hm, h3⟩ := h
  have hokc : okc c := ⟨h1, h2, m, hm, h3⟩
  obtain ⟨a1, a2, a3, a4⟩ := tree_get (ln := isL) (tok := treeB) (line := k) h1 h2 h3
  have hc2 : c.2.set (setNo c k) (treeFor c k) = c.2 := by
    apply List.ext_getElem?
    intro i
    rw [List.getElem?_set]
    by_cases hi : setNo c k = i
    · subst hi
      rw [if_pos rfl]
      have hl2 : setNo c k < c.2.length := by rw [h2]; exact setNo_lt h1
      rw [if_pos hl2]
      unfold treeFor
      rw [List.getD_eq_getElem?_getD, List.getElem?_eq_getElem hl2]; rfl
    · rw [if_neg hi]
  have hrok := row_ok hokc k
  have hkm : k % (c.1.length : Int) = (setNo c k : Nat) := (setNo_cast h1).symm
  have hok : okc c' := by
    have := ok_set (ln := isL) (tok := treeB) (line := k) (i := j) (x := x) h1 h2 hm h3 a3 (row_set hrok (by
      rcases hx with rfl | ⟨hx, hx1⟩
      · exact .inl clear_empty
      · exact .inr ⟨hx, by rw [hx1]; exact hkm⟩) (fun i u hu' hx0 hux => by
      rcases hx with rfl | ⟨hx, hx1⟩
      · simp [emptyW] at hx0
      · exact hrok.2 i j u _ hu' hu (by omega) (by rw [hux, hx1, he])))
    rw [hc2] at this
    exact this
  have hrow : ∀ l, rowFor c' l = if setNo c l = setNo c k then (rowFor c k).set j x else rowFor c l := fun l => rowFor_set h1
  have hsn : ∀ l, setNo c' l = setNo c l := fun l => by simp [setNo, c']
  have hget : (rowFor c' k)[j]? = some x := by rw [hrow, if_pos rfl, List.getElem?_set, if_pos rfl, if_pos hlt]
  refine ⟨hok, ?_, fun l hl hne => ?_, fun l hp => ?_, fun hxe l hs => ?_, by simp [c']⟩
  · rcases hx with rfl | ⟨hx, hx1⟩
    · apply way_none
      cases hat : atC c' k with
      | none => rfl
      | some i =>
        obtain ⟨_, y, hy, hye⟩ := at_some hat
        rw [hrow, if_pos rfl, List.getElem?_set] at hy
        by_cases hij : j = i
        · rw [if_pos hij, if_pos (by omega)] at hy
          injection hy with hy; subst hy
          simp [emptyW] at hye; omega
        · rw [if_neg hij] at hy
          exact absurd (hrok.2 i j y _ hy hu (by omega) (by rw [hye, he])).symm hij
    · have hat := at_iff (row_ok hok k).2 h0 hget hx1
      rw [way_some hat, getD_of hget]
  · rw [← way_find hok, ← way_find hokc]
    refine (find_same (ln := isL) (tok := treeB) hokc hok fun y hy => ?_).symm
    rw [hrow]
    by_cases hs : setNo c l = setNo c k
    · rw [if_pos hs]
      have hrl : rowFor c l = rowFor c k := by unfold rowFor; rw [hs]
      rw [hrl]
      constructor
      · rintro ⟨i, hi⟩
        refine ⟨i, ?_⟩
        rw [List.getElem?_set]
        by_cases hij : j = i
        · subst hij; rw [hu] at hi; injection hi with hi; subst hi; exact absurd (he.symm.trans hy) (fun e => hne e.symm)
        · rw [if_neg hij]; exact hi
      · rintro ⟨i, hi⟩
        rw [List.getElem?_set] at hi
        by_cases hij : j = i
        · rw [if_pos hij, if_pos (by omega)] at hi
          injection hi with hi; subst hi
          rcases hx with rfl | ⟨_, hx1⟩
          · simp [emptyW] at hy; omega
          · exact absurd (hx1.symm.trans hy) (fun e => hne e.symm)
        · rw [if_neg hij] at hi; exact ⟨i, hi⟩
    · rw [if_neg hs]
  · -- room stays
    by_cases hs : setNo c l = setNo c k
    · have hrl : rowFor c l = rowFor c k := by unfold rowFor; rw [hs]
      have hrc : rowFor c' l = (rowFor c k).set j x := by rw [hrow, if_pos hs]
      by_cases hxe : x = emptyW
      · refine room_at (.inr (idx_of (i := j) (u := x) ?_ (by rw [hxe]; exact clear_empty)))
        rw [hrc, List.getElem?_set, if_pos rfl, if_pos hlt]
      · have hxf : fullB isL x = true ∧ x.1 = k := hx.resolve_left hxe
        cases hat : atC c l with
        | some i =>
          obtain ⟨hl0, y, hy, hye⟩ := at_some hat
          rw [hrl] at hy
          refine room_at (.inl ?_)
          by_cases hij : j = i
          · subst hij; rw [hu] at hy; injection hy with hy; subst hy
            exact at_of hl0 (i := j) (u := x) (by rw [hrc, List.getElem?_set, if_pos rfl, if_pos hlt]) (by rw [hxf.2, ← he, hye])
          · exact at_of hl0 (i := i) (u := y) (by rw [hrc, List.getElem?_set, if_neg hij]; exact hy) hye
        | none =>
          cases hro : roomC c l with
          | none => exfalso; apply hp; unfold putNo; rw [hat]; exact hro
          | some i =>
            obtain ⟨y, hy, hyc⟩ := idx_some hro
            rw [hrl] at hy
            by_cases hij : j = i
            · subst hij; rw [hu] at hy; injection hy with hy; subst hy
              rw [full_not_clear hfu] at hyc; cases hyc
            · exact room_at (.inr (idx_of (i := i) (u := y) (by rw [hrc, List.getElem?_set, if_neg hij]; exact hy) hyc))
    · have hrc : rowFor c' l = rowFor c l := by rw [hrow, if_neg hs]
      have : putNo c' l = putNo c l := by unfold putNo atC roomC; rw [hrc]
      rw [this]; exact hp
  · refine room_at (.inr (idx_of (i := j) (u := x) ?_ (by rw [hxe]; exact clear_empty)))
    rw [hrow, if_pos hs, List.getElem?_set, if_pos rfl, if_pos hlt]
theorem drop_way {c : CacheD} (h : okc c) {k : Int} {j : Nat} (ha : atC c k = some j) :
    okc (dropS c k) ∧ wayOf (dropS c k) k = emptyW ∧ (∀ l, 0 ≤ l → l ≠ k → wayOf (dropS c k) l = wayOf c l) ∧ (∀ l, putNo c l ≠ none → putNo (dropS c k) l ≠ none) ∧ (∀ l, setNo c l = setNo c k → putNo (dropS c k) l ≠ none) ∧ (dropS c k).1.length = c.1.length := by
  have := put_way h ha (x := emptyW) (.inl rfl)
  have e : dropS c k = (c.1.set (setNo c k) ((rowFor c k).set j emptyW), c.2) := by unfold dropS; rw [ha]; rfl
  rw [e]
  exact ⟨this.1, this.2.1, this.2.2.1, this.2.2.2.1, this.2.2.2.2.1 rfl, this.2.2.2.2.2⟩
theorem set_way {c : CacheD} (h : okc c) {k : Int} {j : Nat} (ha : atC c k = some j) {x : WayD} (hx : fullB isL x = true ∧ x.1 = k) :
    okc (setS c k x) ∧ wayOf (setS c k x) k = x ∧ (∀ l, 0 ≤ l → l ≠ k → wayOf (setS c k x) l = wayOf c l) ∧ (∀ l, putNo c l ≠ none → putNo (setS c k x) l ≠ none) ∧ (setS c k x).1.length = c.1.length := by
  have := put_way h ha (x := x) (.inr hx)
  have e : setS c k x = (c.1.set (setNo c k) ((rowFor c k).set j x), c.2) := by unfold setS; rw [ha]
  rw [e]
  exact ⟨this.1, this.2.1, this.2.2.1, this.2.2.2.1, this.2.2.2.2.2⟩
theorem leaves_way {c : CacheD} (h : okc c) {k : Int} (h0 : 0 ≤ k) : (leavesS c k < 0 ∧ putNo c k ≠ none) ∨ (0 ≤ leavesS c k ∧ putNo c k = none ∧ leavesS c k ≠ k ∧ (∃ j, atC c (leavesS c k) = some j) ∧ putNo (dropS c (leavesS c k)) k ≠ none) := by
  cases hp : putNo c k with
  | some j => exact .inl ⟨by unfold leavesS; rw [hp]; show (-1 : Int) < 0; decide, by simp⟩
  | none =>
    obtain ⟨j, u, hu, e, hf, hs, hne, ha⟩ := leaves_none (ln := isL) (tok := treeB) (vic := goI) env_vic h hp h0
    have el : leavesS c k = u.1 := by unfold leavesS; rw [hp]; show ((rowFor c k).getD _ emptyW).1 = _; rw [e]
    rw [el]
    exact .inr ⟨(full_line hf).1, rfl, hne, ⟨j, ha⟩, (drop_way h ha).2.2.2.2.1 k hs.symm⟩
theorem op_mem {c : CoreS} (h0 : 0 ≤ c.at_) (h1 : c.at_ < c.prog.length) : opAt c ∈ c.prog := by
  unfold opAt
  have : c.at_.toNat < c.prog.length := by omega
  rw [List.getD_eq_getElem?_getD, List.getElem?_eq_getElem this]
  exact List.getElem_mem this
theorem op_parts {o : OpD} (h : opOk o = true) : (1 ≤ o.1 ∧ o.1 ≤ 5) ∧ (0 ≤ o.2.1 ∧ o.2.1 ≤ 31) ∧ (0 ≤ o.2.2.1 ∧ o.2.2.1 ≤ 9999) ∧ (0 ≤ o.2.2.2 ∧ o.2.2.2 ≤ 9999) := by
  simp only [opOk, opOkD, opB, betw, Bool.and_eq_true, decide_eq_true_eq] at h
  obtain ⟨h1, h2, h3, h4⟩ := h
  refine ⟨h1, h2, ?_, ?_⟩
  · unfold opMostA at h3; split at h3 <;> omega
  · unfold opMostB at h4; split at h4 <;> omega
theorem op_line {o : OpD} (h : opOk o = true) : 0 ≤ opLine o ∧ opLine o ≤ 15 := by
  have := op_parts h; unfold opLine; omega
theorem line_two {d : List Int} (h : isL d = true) : ∃ a b, d = [a, b] ∧ (0 ≤ a ∧ a ≤ 9999) ∧ (0 ≤ b ∧ b ≤ 9999) := by
  match d, h with
  | [a, b], h => simp only [isL, okW, betw, Bool.and_eq_true, decide_eq_true_eq] at h; exact ⟨a, b, rfl, h.1, h.2⟩
theorem then_ok {o : OpD} (h : opOk o = true) {z : Int} (hz : 0 ≤ z ∧ z ≤ 9999) : 0 ≤ (opDo o z).1 ∧ (opDo o z).1 ≤ 9999 := by
  have := op_parts h
  unfold opDo opThen
  dsimp only
  repeat' split
  all_goals omega
/-- What a line is when an op was done tgt it. -/
def lineDo (o : OpD) (d : List Int) : List Int := d.set (o.2.1 % 2).toNat (opDo o (d.getD (o.2.1 % 2).toNat 0)).1
theorem lineDo_ok {o : OpD} (h : opOk o = true) {d : List Int} (hd : isL d = true) : isL (lineDo o d) = true := by
  obtain ⟨a, b, rfl, ha, hb⟩ := line_two hd
  have hp := op_parts h
  have : o.2.1 % 2 = 0 ∨ o.2.1 % 2 = 1 := by omega
  rcases this with e | e
  · have := then_ok h ha
    simp [lineDo, e, isL, okW, betw]; exact ⟨this, hb⟩
  · have := then_ok h hb
    simp [lineDo, e, isL, okW, betw]; exact ⟨ha, this⟩
def heldB (c : CoreS) : Bool := if c.phase = 1 then (goneB c.held || fullB isL c.held) && decide (atC c.cache c.held.1 = none) else clearB c.held
noncomputable def coreBS (c : CoreS) : Bool := okB isL treeB c.cache && (decide (c.prog.length ≤ 30) && (betw c.at_ 0 c.prog.length && (decide ((c.told.length : Int) = c.at_) && (betw c.phase 0 2 && (!(decide (c.phase = 2) && decide (c.at_ = c.prog.length)) && (c.prog.all opOk && heldB c))))))
structure CoreP (c : CoreS) : Prop where
  ok : okc c.cache
  len : c.prog.length ≤ 30
  at0 : 0 ≤ c.at_
  at1 : c.at_ ≤ c.prog.length
  told : (c.told.length : Int) = c.at_
  ph : c.phase = 0 ∨ c.phase = 1 ∨ c.phase = 2
  wait : c.phase = 2 → c.at_ < c.prog.length
  ops : ∀ o ∈ c.prog, opOk o = true
  held : heldB c = true
theorem core_iff {c : CoreS} : coreBS c = true ↔ CoreP c := by
  unfold coreBS
  simp only [Bool.and_eq_true, okB_iff, decide_eq_true_eq, betw, Bool.not_eq_true', Bool.and_eq_false_iff, decide_eq_false_iff_not, List.all_eq_true]
  constructor
  · rintro ⟨h1, h2, h3, h4, h5, h6, h7, h8⟩
    exact ⟨h1, h2, h3.1, h3.2, h4, by omega, fun e => by rcases h6 with h6 | h6 <;> omega, h7, h8⟩
  · rintro ⟨h1, h2, h3, h4, h5, h6, h7, h8, h9⟩
    refine ⟨h1, h2, ⟨h3, h4⟩, h5, by omega, ?_, h8, h9⟩
    by_cases e : c.phase = 2
    · exact .inr (by have := h7 e; omega)
    · exact .inl e
theorem held_idle {c : CoreS} (h : CoreP c) (hp : c.phase ≠ 1) : c.held = emptyW := by
  have := h.held
  unfold heldB at this
  rw [if_neg hp] at this
  exact clear_eq this
theorem held_evict {c : CoreS} (h : CoreP c) (hp : c.phase = 1) : (0 ≤ c.held.1 ∧ c.held.1 ≤ 15) ∧ ((c.held.2.1 = 0 ∧ c.held.2.2 = []) ∨ fullB isL c.held = true) ∧ atC c.cache c.held.1 = none := by
  have := h.held
  unfold heldB at this
  rw [if_pos hp] at this
  simp only [Bool.and_eq_true, Bool.or_eq_true, decide_eq_true_eq, goneB, betw] at this
  obtain ⟨h1 | h1, h2⟩ := this
  · exact ⟨h1.1, .inl ⟨h1.2.1, List.eq_nil_of_length_eq_zero h1.2.2⟩, h2⟩
  · exact ⟨(full_line h1), .inr h1, h2⟩
theorem held_mk {c : CoreS} (hp : c.phase = 1) (h0 : 0 ≤ c.held.1 ∧ c.held.1 ≤ 15) (h1 : (c.held.2.1 = 0 ∧ c.held.2.2 = []) ∨ fullB isL c.held = true) (h2 : atC c.cache c.held.1 = none) : heldB c = true := by
  unfold heldB
  rw [if_pos hp]
  simp only [Bool.and_eq_true, Bool.or_eq_true, decide_eq_true_eq, goneB, betw]
  refine ⟨?_, h2⟩
  rcases h1 with h1 | h1
  · exact .inl ⟨h0, h1.1, by rw [h1.2]; rfl⟩
  · exact .inr h1
theorem held_mk0 {c : CoreS} (hp : c.phase ≠ 1) (h : c.held = emptyW) : heldB c = true := by
  unfold heldB
  rw [if_neg hp, h]
  exact clear_empty
theorem ph_same {c : CoreS} (h : c.phase = 0) : ({ c with phase := 0 } : CoreS) = c := by
  obtain ⟨a, b, d, p, f, g⟩ := c
  have : p = 0 := h
  subst this
  rfl
/-- Doing the op: where it is done, all is told. -/
theorem do_core {c c' : CoreS} {u : WayD} (h : CoreP c) (hp : c.phase ≠ 1) (h1 : c.at_ < c.prog.length) (hu : fullB isL u = true) (hd : doS c u = some c') :
    CoreP { c' with phase := 0 } ∧ c'.phase = c.phase ∧ c'.held = c.held ∧ c'.prog = c.prog ∧ c'.at_ = c.at_ + 1 ∧ asksI u.2.1 (opWr (opAt c)) = 0 ∧ wayOf c'.cache u.1 = (u.1, (if opWr (opAt c) then 3 else u.2.1), lineDo (opAt c) u.2.2) := by
  have ho := h.ops _ (op_mem h.at0 h1)
  unfold doS at hd
  dsimp only at hd
  by_cases ha : asksI u.2.1 (opWr (opAt c)) = 0
  · rw [if_pos ha] at hd
    split at hd
    · rename_i cc hf
      cases hd
      obtain ⟨q1, q2, q3, q4, q5⟩ := fill_way h.ok hf
      refine ⟨⟨q1, h.len, ?_, ?_, ?_, .inl rfl, fun e => ?_, h.ops, held_mk0 (by simp) (held_idle (c := c) h hp)⟩, rfl, rfl, rfl, rfl, ha, q3⟩
      · show 0 ≤ c.at_ + 1; have := h.at0; omega
      · show c.at_ + 1 ≤ (c.prog.length : Int); omega
      · show ((c.told ++ [_]).length : Int) = c.at_ + 1
        rw [List.length_append, List.length_singleton]
        have := h.told
        omega
      · cases e
    · cases hd
  · rw [if_neg ha] at hd; cases hd
theorem full_st {c : CacheD} (h : okc c) {k : Int} {j : Nat} (ha : atC c k = some j) : 0 ≤ k ∧ k ≤ 15 ∧ (wayOf c k).1 = k ∧ fullB isL (wayOf c k) = true ∧ 1 ≤ (wayOf c k).2.1 ∧ (wayOf c k).2.1 ≤ 3 ∧ isL (wayOf c k).2.2 = true := by
  obtain ⟨h0, _, h1, h2⟩ := way_at h ha
  have hp := full_parts h2
  exact ⟨h0, by have := hp.1.2; omega, h1, h2, hp.2.1.1, hp.2.1.2, hp.2.2⟩
theorem isL_ne {d : List Int} (h : isL d = true) : d ≠ [] := by
  intro e
  subst e
  simp [isL] at h
def RightL (l : List MsgD) : Prop := l.length ≤ 1 ∧ ∀ m ∈ l, msgB m = true
theorem right_nil : RightL [] := ⟨by simp, by simp⟩
theorem right_one {m : MsgD} (h : msgB m = true) : RightL [m] := ⟨by simp, by simpa using h⟩
theorem msg_ok {road frm tgt kind line flag : Int} {d : List Int} (h1 : 0 ≤ road ∧ road ≤ 2) (h2 : 0 ≤ frm ∧ frm ≤ 5) (h3 : 0 ≤ tgt ∧ tgt ≤ 5) (h4 : 1 ≤ kind ∧ kind ≤ 15) (h5 : 0 ≤ line ∧ line ≤ 15) (h6 : d = [] ∨ isL d = true) (h7 : 0 ≤ flag ∧ flag ≤ 15) : msgB (msg road frm tgt kind line d flag) = true := by
  have hd : dataB d = true := by
    unfold dataB
    rcases h6 with rfl | h6
    · rfl
    · rw [h6, Bool.or_true]
  unfold msgB msg endsB
  dsimp only
  rw [hd]
  simp [betw]
  omega
theorem asks_two {s : Int} {w : Bool} (hs : 0 ≤ s ∧ s ≤ 3) (h : asksI s w ≠ 0) : (asksI s w = 2 ↔ w = true) := by
  obtain ⟨h0, h1⟩ := hs
  have hb : betw s 0 3 = true := by simp [betw]; omega
  unfold asksI at h ⊢
  rw [if_pos hb] at h ⊢
  cases w
  · simp only [Bool.false_eq_true, if_false, iff_false]
    unfold readI
    split <;> decide
  · simp only [if_true, iff_true] at h ⊢
    unfold writeI at h ⊢
    split at h
    · rename_i e; rw [if_pos e]
    · exact absurd rfl h
/-- What begins: the core stays right, and what is told. -/
theorem begin_core {c : CoreS} (h : CoreP c) {id : Int} (hid : 0 ≤ id ∧ id ≤ 3) :
    CoreP (beginS c id).1 ∧ RightL (beginS c id).2.1 ∧
    (((beginS c id).2.2 = 0 ∧ (beginS c id).1 = c ∧ (beginS c id).2.1 = [] ∧ (c.phase ≠ 0 ∨ c.at_ = c.prog.length)) ∨
     ((beginS c id).2.2 = 1 ∧ (beginS c id).1.at_ = c.at_ + 1 ∧ (beginS c id).2.1 = [] ∧ (beginS c id).1.phase = 0) ∨
     ((beginS c id).2.2 = 2 ∧ (beginS c id).1.phase = 1 ∧ atC (beginS c id).1.cache (beginS c id).1.held.1 = none ∧ wayOf c.cache (beginS c id).1.held.1 = (beginS c id).1.held ∧ ∃ m, (beginS c id).2.1 = [m] ∧ mKind m = 3 ∧ (mData m ≠ [] ↔ 2 ≤ (beginS c id).1.held.2.1)) ∨
     ((beginS c id).2.2 = 3 ∧ (beginS c id).1.phase = 2 ∧ (beginS c id).1.cache = c.cache ∧ ∃ m, (beginS c id).2.1 = [m] ∧ (mKind m = 2 ↔ opWr (opAt c) = true))) := by
  by_cases h0 : c.phase ≠ 0 ∨ c.at_ = c.prog.length
  · have e : beginS c id = (c, [], 0) := by unfold beginS; rw [if_pos h0]
    rw [e]
    exact ⟨h, right_nil, .inl ⟨rfl, rfl, rfl, h0⟩⟩
  · have hp : c.phase = 0 := Classical.byContradiction fun e => h0 (.inl e)
    have hat : c.at_ < c.prog.length := by
      have := h.at1
      have : c.at_ ≠ c.prog.length := fun e => h0 (.inr e)
      omega
    have ho := h.ops _ (op_mem h.at0 hat)
    have hl := op_line ho
    have hne := held_idle h (by omega)
    by_cases ha : asksI (wayOf c.cache (opLine (opAt c))).2.1 (opWr (opAt c)) = 0
    · obtain ⟨hst, hsz⟩ := way_st h.ok (opLine (opAt c))
      cases hat' : atC c.cache (opLine (opAt c)) with
      | none =>
        have := hsz.2 hat'
        rw [this] at ha
        cases hw : opWr (opAt c) <;> rw [hw] at ha <;> exact absurd ha (by decide)
      | some j =>
        obtain ⟨f0, f1, f2, f3, f4, f5, f6⟩ := full_st h.ok hat'
        have hroom : putNo c.cache (opLine (opAt c)) ≠ none := room_at (.inl ⟨j, hat'⟩)
        have hfull : fullB isL ((wayOf c.cache (opLine (opAt c))).1, (if opWr (opAt c) then (3 : Int) else (wayOf c.cache (opLine (opAt c))).2.1), lineDo (opAt c) (wayOf c.cache (opLine (opAt c))).2.2) = true := by
          simp only [fullB, decide_eq_true_eq]
          refine ⟨by omega, ?_, lineDo_ok ho f6⟩
          split <;> omega
        obtain ⟨cc, hf⟩ := fill_room hfull (by show putNo c.cache (wayOf c.cache (opLine (opAt c))).1 ≠ none; rw [f2]; exact hroom)
        have hd : doS c (wayOf c.cache (opLine (opAt c))) = some { c with cache := cc, told := c.told ++ [(opDo (opAt c) ((wayOf c.cache (opLine (opAt c))).2.2.getD ((opAt c).2.1 % 2).toNat 0)).2], at_ := c.at_ + 1 } := by
          unfold doS
          dsimp only
          rw [if_pos ha]
          unfold lineDo at hf
          rw [hf]
        obtain ⟨g1, g2, g3, g4, g5, g6, g7⟩ := do_core h (by omega) hat f3 hd
        have e : beginS c id = ({ c with cache := cc, told := c.told ++ [(opDo (opAt c) ((wayOf c.cache (opLine (opAt c))).2.2.getD ((opAt c).2.1 % 2).toNat 0)).2], at_ := c.at_ + 1 }, [], 1) := by
          unfold beginS
          rw [if_neg h0]
          dsimp only
          rw [if_pos ha, hd]
          rfl
        rw [e]
        refine ⟨?_, right_nil, .inr (.inl ⟨rfl, rfl, rfl, hp⟩)⟩
        rw [ph_same (g2.trans hp)] at g1
        exact g1
    · by_cases hv : 0 ≤ leavesS c.cache (opLine (opAt c))
      · rcases leaves_way h.ok hl.1 with ⟨w1, _⟩ | ⟨w1, w2, w3, ⟨j, w4⟩, w5⟩
        · omega
        · obtain ⟨f0, f1, f2, f3, f4, f5, f6⟩ := full_st h.ok w4
          obtain ⟨d1, d2, d3, _, _, d6⟩ := drop_way h.ok w4
          have hnone : atC (dropS c.cache (leavesS c.cache (opLine (opAt c)))) (leavesS c.cache (opLine (opAt c))) = none := (way_st d1 _).2.1 (by rw [d2]; rfl)
          have e : beginS c id = ({ c with held := wayOf c.cache (leavesS c.cache (opLine (opAt c))), cache := dropS c.cache (leavesS c.cache (opLine (opAt c))), phase := 1 }, [if 2 ≤ (wayOf c.cache (leavesS c.cache (opLine (opAt c)))).2.1 then msg 0 id 4 3 (leavesS c.cache (opLine (opAt c))) (wayOf c.cache (leavesS c.cache (opLine (opAt c)))).2.2 1 else msg 0 id 4 3 (leavesS c.cache (opLine (opAt c))) [] 0], 2) := by
            unfold beginS
            rw [if_neg h0]
            dsimp only
            rw [if_neg ha, if_pos hv]
          rw [e]
          refine ⟨⟨d1, h.len, h.at0, h.at1, h.told, .inr (.inl rfl), (fun e => by cases e), h.ops, held_mk rfl ?_ (.inr f3) ?_⟩, right_one ?_, .inr (.inr (.inl ⟨rfl, rfl, ?_, ?_, _, rfl, ?_, ?_⟩))⟩
          · show 0 ≤ (wayOf c.cache _).1 ∧ (wayOf c.cache _).1 ≤ 15; rw [f2]; exact ⟨f0, f1⟩
          · show atC (dropS c.cache _) (wayOf c.cache _).1 = none; rw [f2]; exact hnone
          · split
            · exact msg_ok (by omega) (by omega) (by omega) (by omega) (by omega) (.inr f6) (by omega)
            · exact msg_ok (by omega) (by omega) (by omega) (by omega) (by omega) (.inl rfl) (by omega)
          · show atC (dropS c.cache _) (wayOf c.cache _).1 = none; rw [f2]; exact hnone
          · show wayOf c.cache (wayOf c.cache _).1 = wayOf c.cache _; rw [f2]
          · split <;> rfl
          · show mData _ ≠ [] ↔ 2 ≤ (wayOf c.cache _).2.1
            split
            · rename_i e2; exact ⟨fun _ => e2, fun _ => isL_ne f6⟩
            · rename_i e2; exact ⟨fun q => absurd rfl q, fun q => absurd q e2⟩
      · have e : beginS c id = ({ c with phase := 2 }, [msg 0 id 4 (if asksI (wayOf c.cache (opLine (opAt c))).2.1 (opWr (opAt c)) = 2 then 2 else 1) (opLine (opAt c)) [] 0], 3) := by
          unfold beginS
          rw [if_neg h0]
          dsimp only
          rw [if_neg ha, if_neg hv]
        rw [e]
        refine ⟨⟨h.ok, h.len, h.at0, h.at1, h.told, .inr (.inr rfl), fun _ => hat, h.ops, held_mk0 (by simp) hne⟩, right_one ?_, .inr (.inr (.inr ⟨rfl, rfl, rfl, _, rfl, ?_⟩))⟩
        · refine msg_ok (by omega) (by omega) (by omega) ?_ (by omega) (.inl rfl) (by omega)
          split <;> omega
        · have hst := (way_st h.ok (opLine (opAt c))).1
          show (if asksI _ _ = 2 then (2 : Int) else 1) = 2 ↔ _
          rw [← asks_two hst ha]
          split
          · rename_i e2; simp [e2]
          · rename_i e2; simp [e2]
theorem none_of {c : CacheD} (h : okc c) {k : Int} (e : (wayOf c k).2.1 = 0) : atC c k = none := (way_st h k).2.1 e
/-- What the asking of another one makes of a core. -/
def AskP (c : CoreS) (id : Int) (m : MsgD) (r : CoreS × MsgD) : Prop :=
  CoreP r.1 ∧ msgB r.2 = true ∧ mLine r.2 = mLine m ∧ (mKind r.2 = 8 ∨ mKind r.2 = 9) ∧ (mKind r.2 = 8 ↔ mData r.2 ≠ []) ∧ (wayOf r.1.cache (mLine m)).2.1 < 2 ∧ (mKind m = 7 → (wayOf r.1.cache (mLine m)).2.1 = 0) ∧
    (mFlag r.2 = 1 ↔ (wayOf r.1.cache (mLine m)).2.1 = 0 ∧ (r.1.phase ≠ 1 ∨ r.1.held.1 ≠ mLine m ∨ r.1.held.2.1 = 0)) ∧ (askedS r.1 id m).1 = r.1 ∧ mKind (askedS r.1 id m).2 = 9
theorem asked_core {c : CoreS} (h : CoreP c) {id : Int} (hid : 0 ≤ id ∧ id ≤ 3) {m : MsgD} (hk : mKind m = 6 ∨ mKind m = 7) (hl : 0 ≤ mLine m ∧ mLine m ≤ 15) : AskP c id m (askedS c id m) := by
  have hmk : ∀ kd fl : Int, ∀ d : List Int, (kd = 8 ∨ kd = 9) → (fl = 0 ∨ fl = 1) → (d = [] ∨ isL d = true) → msgB (msg 2 id 4 kd (mLine m) d fl) = true := fun kd fl d h1 h2 h3 => msg_ok (by omega) (by omega) (by omega) (by omega) (by omega) h3 (by omega)
  cases ha : atC c.cache (mLine m) with
  | some j =>
    obtain ⟨f0, f1, f2, f3, f4, f5, f6⟩ := full_st h.ok ha
    have hh : c.phase = 1 → c.held.1 ≠ mLine m := fun hp e => by
      have := (held_evict h hp).2.2
      rw [e, ha] at this
      cases this
    have keep : ∀ cc : CacheD, okc cc → (∀ l, 0 ≤ l → l ≠ mLine m → wayOf cc l = wayOf c.cache l) → CoreP { c with cache := cc } := by
      intro cc ok hw
      refine ⟨ok, h.len, h.at0, h.at1, h.told, h.ph, h.wait, h.ops, ?_⟩
      by_cases hp : c.phase = 1
      · obtain ⟨e1, e2, e3⟩ := held_evict h hp
        refine held_mk hp e1 e2 (none_of ok ?_)
        show (wayOf cc c.held.1).2.1 = 0
        rw [hw _ e1.1 (hh hp)]
        exact (way_st h.ok _).2.2 e3
      · exact held_mk0 hp (held_idle (c := c) h hp)
    rcases hk with hk | hk
    · -- it is read
      by_cases hs : 2 ≤ (wayOf c.cache (mLine m)).2.1
      · obtain ⟨g1, g2, g3, _, _⟩ := set_way h.ok ha (x := ((wayOf c.cache (mLine m)).1, 1, (wayOf c.cache (mLine m)).2.2)) ⟨by
          simp only [fullB, decide_eq_true_eq]
          exact ⟨by omega, by omega, f6⟩, f2⟩
        have e : askedS c id m = ({ c with cache := setS c.cache (mLine m) ((wayOf c.cache (mLine m)).1, 1, (wayOf c.cache (mLine m)).2.2) }, msg 2 id 4 8 (mLine m) (wayOf c.cache (mLine m)).2.2 0) := by
          unfold askedS
          dsimp only
          rw [ha]
          dsimp only
          rw [if_neg (by omega), if_pos hs, if_pos hs, if_pos hs]
        have a2 : ∃ i, atC (setS c.cache (mLine m) ((wayOf c.cache (mLine m)).1, 1, (wayOf c.cache (mLine m)).2.2)) (mLine m) = some i := by
          cases hq : atC (setS c.cache (mLine m) ((wayOf c.cache (mLine m)).1, 1, (wayOf c.cache (mLine m)).2.2)) (mLine m) with
          | some i => exact ⟨i, rfl⟩
          | none =>
            have := (way_st g1 _).2.2 hq
            rw [g2] at this
            cases this
        obtain ⟨i, a2⟩ := a2
        rw [e]
        refine ⟨keep _ g1 g3, hmk 8 0 _ (.inl rfl) (.inl rfl) (.inr f6), rfl, .inl rfl, ⟨fun _ => isL_ne f6, fun _ => rfl⟩, ?_, fun q => by omega, ?_, ?_, ?_⟩
        · show (wayOf (setS c.cache _ _) _).2.1 < 2; rw [g2]; show (1 : Int) < 2; omega
        · show (0 : Int) = 1 ↔ (wayOf (setS c.cache _ _) _).2.1 = 0 ∧ _
          rw [g2]
          constructor
          · intro q; omega
          · rintro ⟨q, _⟩; exact absurd (show (1 : Int) = 0 from q) (by decide)
        · unfold askedS
          dsimp only
          rw [a2]
          dsimp only
          rw [if_neg (by omega), g2, if_neg (show ¬ (2 : Int) ≤ 1 by decide)]
        · unfold askedS
          dsimp only
          rw [a2]
          dsimp only
          rw [if_neg (by omega), g2, if_neg (show ¬ (2 : Int) ≤ 1 by decide)]
          rfl
      · have e : askedS c id m = (c, msg 2 id 4 9 (mLine m) [] 0) := by
          unfold askedS
          dsimp only
          rw [ha]
          dsimp only
          rw [if_neg (by omega), if_neg hs, if_neg hs, if_neg hs]
        have e1 : (askedS c id m).1 = c := by rw [e]
        have e2 : (askedS c id m).2 = msg 2 id 4 9 (mLine m) [] 0 := by rw [e]
        rw [e]
        refine ⟨h, hmk 9 0 _ (.inr rfl) (.inl rfl) (.inl rfl), rfl, .inr rfl, ⟨fun q => absurd (show (9 : Int) = 8 from q) (by decide), fun q => absurd rfl q⟩, by show (wayOf c.cache _).2.1 < 2; omega, fun q => by omega, ?_, ?_, ?_⟩
        · show (0 : Int) = 1 ↔ (wayOf c.cache _).2.1 = 0 ∧ _
          constructor
          · intro q; omega
          · rintro ⟨q, _⟩; omega
        · exact e1
        · show mKind (askedS c id m).2 = 9; rw [e2]; rfl
    · -- it is written
      obtain ⟨g1, g2, g3, _, _, _⟩ := drop_way h.ok ha
      have e : askedS c id m = ({ c with cache := dropS c.cache (mLine m) }, msg 2 id 4 (if 2 ≤ (wayOf c.cache (mLine m)).2.1 then 8 else 9) (mLine m) (if 2 ≤ (wayOf c.cache (mLine m)).2.1 then (wayOf c.cache (mLine m)).2.2 else []) 1) := by
        unfold askedS
        dsimp only
        rw [ha]
        dsimp only
        rw [if_pos hk]
      have a2 : atC (dropS c.cache (mLine m)) (mLine m) = none := none_of g1 (by rw [g2]; rfl)
      have e3 : askedS { c with cache := dropS c.cache (mLine m) } id m = ({ c with cache := dropS c.cache (mLine m) }, msg 2 id 4 9 (mLine m) [] 1) := by
        unfold askedS
        dsimp only
        rw [a2]
        dsimp only
        rw [if_neg (fun q => hh q.1 q.2.1)]
      rw [e]
      refine ⟨keep _ g1 g3, ?_, rfl, ?_, ?_, ?_, fun _ => ?_, ?_, ?_, ?_⟩
      · refine hmk _ 1 _ ?_ (.inr rfl) ?_
        · split
          · exact .inl rfl
          · exact .inr rfl
        · split
          · exact .inr f6
          · exact .inl rfl
      · show (if _ then (8 : Int) else 9) = 8 ∨ (if _ then (8 : Int) else 9) = 9
        split
        · exact .inl rfl
        · exact .inr rfl
      · show (if _ then (8 : Int) else 9) = 8 ↔ (if _ then (wayOf c.cache (mLine m)).2.2 else []) ≠ []
        split
        · exact ⟨fun _ => isL_ne f6, fun _ => rfl⟩
        · exact ⟨fun q => absurd (show (9 : Int) = 8 from q) (by decide), fun q => absurd rfl q⟩
      · show (wayOf (dropS c.cache _) _).2.1 < 2; rw [g2]; decide
      · show (wayOf (dropS c.cache _) _).2.1 = 0; rw [g2]; rfl
      · show (1 : Int) = 1 ↔ (wayOf (dropS c.cache _) _).2.1 = 0 ∧ _
        rw [g2]
        refine ⟨fun _ => ⟨rfl, ?_⟩, fun _ => rfl⟩
        by_cases hp : c.phase = 1
        · exact .inr (.inl (hh hp))
        · exact .inl hp
      · rw [e3]
      · rw [e3]; rfl
  | none =>
    have hw0 := (way_st h.ok (mLine m)).2.2 ha
    have ew : wayOf c.cache (mLine m) = emptyW := way_none ha
    by_cases hp : c.phase = 1 ∧ c.held.1 = mLine m ∧ c.held.2.1 ≠ 0
    · obtain ⟨p1, p2, p3⟩ := hp
      obtain ⟨e1, e2, e3⟩ := held_evict h p1
      have hf : fullB isL c.held = true := e2.resolve_left (fun q => p3 q.1)
      have hfp := full_parts hf
      have gone : CoreP { c with held := (mLine m, 0, []) } := ⟨h.ok, h.len, h.at0, h.at1, h.told, h.ph, h.wait, h.ops, held_mk p1 hl (.inl ⟨rfl, rfl⟩) ha⟩
      have e4 : askedS { c with held := (mLine m, 0, []) } id m = ({ c with held := (mLine m, 0, []) }, msg 2 id 4 9 (mLine m) [] 1) := by
        unfold askedS
        dsimp only
        rw [ha]
        dsimp only
        rw [if_neg (fun q => q.2.2 rfl)]
      have fin : ∀ kd : Int, ∀ d : List Int, (kd = 8 ∨ kd = 9) → (d = [] ∨ isL d = true) → (kd = 8 ↔ d ≠ []) → AskP c id m ({ c with held := (mLine m, 0, []) }, msg 2 id 4 kd (mLine m) d 1) := by
        intro kd d h1 h2 h3
        refine ⟨gone, hmk kd 1 d h1 (.inr rfl) h2, rfl, h1, h3, ?_, fun _ => hw0, ⟨fun _ => ⟨hw0, .inr (.inr rfl)⟩, fun _ => rfl⟩, ?_, ?_⟩
        · show (wayOf c.cache _).2.1 < 2; omega
        · show (askedS { c with held := (mLine m, 0, []) } id m).1 = _; rw [e4]
        · show mKind (askedS { c with held := (mLine m, 0, []) } id m).2 = 9; rw [e4]; rfl
      by_cases hs : 2 ≤ c.held.2.1
      · have e : askedS c id m = ({ c with held := (mLine m, 0, []) }, msg 2 id 4 8 (mLine m) c.held.2.2 1) := by
          unfold askedS
          dsimp only
          rw [ha]
          dsimp only
          rw [if_pos ⟨p1, p2, p3⟩, if_pos hs]
        rw [e]
        exact fin 8 _ (.inl rfl) (.inr hfp.2.2) ⟨fun _ => isL_ne hfp.2.2, fun _ => rfl⟩
      · rcases hk with hk | hk
        · have e : askedS c id m = (c, msg 2 id 4 9 (mLine m) [] 0) := by
            unfold askedS
            dsimp only
            rw [ha]
            dsimp only
            rw [if_pos ⟨p1, p2, p3⟩, if_neg hs, if_pos hk]
          have q1 : (askedS c id m).1 = c := by rw [e]
          have q2 : (askedS c id m).2 = msg 2 id 4 9 (mLine m) [] 0 := by rw [e]
          rw [e]
          refine ⟨h, hmk 9 0 _ (.inr rfl) (.inl rfl) (.inl rfl), rfl, .inr rfl, ⟨fun q => absurd (show (9 : Int) = 8 from q) (by decide), fun q => absurd rfl q⟩, by show (wayOf c.cache _).2.1 < 2; omega, fun q => by omega, ?_, q1, ?_⟩
          · constructor
            · intro q; exact absurd (show (0 : Int) = 1 from q) (by decide)
            · rintro ⟨_, q | q | q⟩
              · exact absurd p1 q
              · exact absurd p2 q
              · exact absurd q p3
          · show mKind (askedS c id m).2 = 9; rw [q2]; rfl
        · have e : askedS c id m = ({ c with held := (mLine m, 0, []) }, msg 2 id 4 9 (mLine m) [] 1) := by
            unfold askedS
            dsimp only
            rw [ha]
            dsimp only
            rw [if_pos ⟨p1, p2, p3⟩, if_neg hs, if_neg (by omega)]
          rw [e]
          exact fin 9 _ (.inr rfl) (.inl rfl) ⟨fun q => absurd (show (9 : Int) = 8 from q) (by decide), fun q => absurd rfl q⟩
    · have e : askedS c id m = (c, msg 2 id 4 9 (mLine m) [] 1) := by
        unfold askedS
        dsimp only
        rw [ha]
        dsimp only
        rw [if_neg hp]
      have q1 : (askedS c id m).1 = c := by rw [e]
      have q2 : (askedS c id m).2 = msg 2 id 4 9 (mLine m) [] 1 := by rw [e]
      rw [e]
      refine ⟨h, hmk 9 1 _ (.inr rfl) (.inr rfl) (.inl rfl), rfl, .inr rfl, ⟨fun q => absurd (show (9 : Int) = 8 from q) (by decide), fun q => absurd rfl q⟩, by show (wayOf c.cache _).2.1 < 2; omega, fun _ => hw0, ?_, q1, ?_⟩
      · refine ⟨fun _ => ⟨hw0, ?_⟩, fun _ => rfl⟩
        show c.phase ≠ 1 ∨ c.held.1 ≠ mLine m ∨ c.held.2.1 = 0
        by_cases a1 : c.phase = 1
        · by_cases a2 : c.held.1 = mLine m
          · exact .inr (.inr (Classical.byContradiction fun a3 => hp ⟨a1, a2, a3⟩))
          · exact .inr (.inl a2)
        · exact .inl a1
      · show mKind (askedS c id m).2 = 9; rw [q2]; rfl
/-- What comes tgt a core: it stays right, and what is told. -/
def GetP (c : CoreS) (id : Int) (m : MsgD) (r : CoreS × List MsgD × Int) : Prop := CoreP r.1 ∧ RightL r.2.1 ∧
    ((r.2.2 = 0 ∧ r.1 = c ∧ r.2.1 = []) ∨
     (r.2.2 = 2 ∧ c.at_ < c.prog.length ∧ r.1.at_ = c.at_ + 1 ∧ r.1.phase = 0 ∧ (∃ a, r.2.1 = [a] ∧ mKind a = 10) ∧ asksI (wayOf r.1.cache (mLine m)).2.1 (opWr (opAt c)) = 0) ∨
     (r.2.2 = 1 ∧ mKind m = 12) ∨
     (r.2.2 = 1 ∧ (mKind m = 6 ∨ mKind m = 7) ∧ (0 ≤ mLine m ∧ mLine m ≤ 15) ∧ r.1 = (askedS c id m).1 ∧ r.2.1 = [(askedS c id m).2] ∧ AskP c id m (askedS c id m) ∧ getS (askedS c id m).1 id m = ((askedS c id m).1, [(askedS (askedS c id m).1 id m).2], 1)))
theorem get_core {c : CoreS} (h : CoreP c) {id : Int} (hid : 0 ≤ id ∧ id ≤ 3) (m : MsgD) : GetP c id m (getS c id m) := by
  have none : getS c id m = (c, [], 0) → GetP c id m (getS c id m) := fun e => by rw [e]; exact ⟨h, right_nil, .inl ⟨rfl, rfl, rfl⟩⟩
  by_cases hk : mKind m = 6 ∨ mKind m = 7
  · by_cases hl : betw (mLine m) 0 15 = true
    · have hl' : 0 ≤ mLine m ∧ mLine m ≤ 15 := by simpa [betw] using hl
      have A := asked_core h hid hk hl'
      have e : getS c id m = ((askedS c id m).1, [(askedS c id m).2], 1) := by unfold getS; rw [if_pos hk, if_pos hl]
      have e2 : getS (askedS c id m).1 id m = ((askedS c id m).1, [(askedS (askedS c id m).1 id m).2], 1) := by
        unfold getS
        rw [if_pos hk, if_pos hl, A.2.2.2.2.2.2.2.2.1]
      rw [e]
      exact ⟨A.1, right_one A.2.1, .inr (.inr (.inr ⟨rfl, hk, hl', rfl, rfl, A, e2⟩))⟩
    · exact none (by unfold getS; rw [if_pos hk, if_neg hl])
  · by_cases hk2 : mKind m = 12
    · by_cases hp : c.phase ≠ 1 ∨ c.held.1 ≠ mLine m
      · exact none (by unfold getS; rw [if_neg hk, if_pos hk2, if_pos hp])
      · have e : getS c id m = ({ c with phase := 0, held := emptyW }, [], 1) := by unfold getS; rw [if_neg hk, if_pos hk2, if_neg hp]
        rw [e]
        exact ⟨⟨h.ok, h.len, h.at0, h.at1, h.told, .inl rfl, (fun q => by cases q), h.ops, held_mk0 (by simp) rfl⟩, right_nil, .inr (.inr (.inl ⟨rfl, hk2⟩))⟩
    · by_cases hk3 : mKind m = 11
      · by_cases hp : c.phase ≠ 2 ∨ opLine (opAt c) ≠ mLine m ∨ isL (mData m) = false ∨ betw (mFlag m) 1 3 = false
        · exact none (by unfold getS; rw [if_neg hk, if_neg hk2, if_pos hk3, if_pos hp])
        · simp only [not_or, ne_eq, Classical.not_not, Bool.not_eq_false] at hp
          obtain ⟨p1, p2, p3, p4⟩ := hp
          have hat := h.wait p1
          have ho := h.ops _ (op_mem h.at0 hat)
          have hl := op_line ho
          have hf : betw (mFlag m) 1 3 = true := p4
          have hfl : 1 ≤ mFlag m ∧ mFlag m ≤ 3 := by simpa [betw] using hf
          have hfull : fullB isL (mLine m, mFlag m, mData m) = true := by
            simp only [fullB, decide_eq_true_eq]
            exact ⟨by omega, hfl, p3⟩
          cases hd : doS c (mLine m, mFlag m, mData m) with
          | none => exact none (by unfold getS; rw [if_neg hk, if_neg hk2, if_pos hk3, if_neg (by simp [p1, p2, p3, p4]), hd])
          | some c' =>
            obtain ⟨g1, g2, g3, g4, g5, g6, g7⟩ := do_core h (by omega) hat hfull hd
            have e : getS c id m = ({ c' with phase := 0 }, [msg 2 id 4 10 (mLine m) [] 0], 2) := by unfold getS; rw [if_neg hk, if_neg hk2, if_pos hk3, if_neg (by simp [p1, p2, p3, p4]), hd]
            rw [e]
            refine ⟨g1, right_one (msg_ok (by omega) (by omega) (by omega) (by omega) (by omega) (.inl rfl) (by omega)), .inr (.inl ⟨rfl, hat, g5, rfl, ⟨_, rfl, rfl⟩, ?_⟩)⟩
            show asksI (wayOf c'.cache (mLine m)).2.1 (opWr (opAt c)) = 0
            rw [g7]
            show asksI (if opWr (opAt c) then 3 else mFlag m) (opWr (opAt c)) = 0
            cases hw : opWr (opAt c)
            · rw [hw] at g6; exact g6
            · rw [if_pos rfl]; decide
      · exact none (by unfold getS; rw [if_neg hk, if_neg hk2, if_neg hk3])
#print axioms begin_core
#print axioms get_core
end Go.Proofs.YthbclkpmgcfdnaaGreatDoor
