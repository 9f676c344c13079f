/- A line dropped out of a store, by the program. No condition but lengths that a machine can hold. -/
import Derived.Test.YtnalbbfilejokaaCopyImpl
import Derived.Test.YtnalbbfilejokaaSpecCopy
namespace Go.Proofs.Ytnalbbfilejokaa
open Go.ChangeShapes Go.WideShapes Go.ChangeAt Go.RowKit
set_option linter.unusedVariables false

theorem ok_rows {c : CacheD} (h : OkC isL treeB c) : (c.1.length = 1 ∨ c.1.length = 2 ∨ c.1.length = 4) ∧ ∃ m, (m = 1 ∨ m = 2 ∨ m = 4) ∧ ∀ row ∈ c.1, row.length = m := by
  obtain ⟨h1, h2, m, hm, h3⟩ := h
  refine ⟨h1, m, hm, fun row hr => ?_⟩
  obtain ⟨s, hs⟩ := List.getElem?_of_mem hr
  exact (h3 s row hs).1
/- A store that was made is laid as the answer: the two cells of the result are set. -/
theorem ret_cache {w w4 : World} {S1 S2 : Foot} {u v : Value} {c : CacheD} (N1 : setsR.own w4 S1 [u] c.1) (N2 : intsR.own w4 S2 [v] c.2) (a1 : ∀ k, S1 k → w.heap.size + 2 ≤ k ∧ k < w4.heap.size) (a2 : ∀ k, S2 k → w.heap.size + 2 ≤ k ∧ k < w4.heap.size) (dd : Dis S1 S2) (B : Below w.heap.size w w4) :
    MadeR cacheR w ((w4.setCell ⟨w.heap.size + 1, 0, none⟩ u).setCell ⟨w.heap.size + 1, 1, none⟩ v) [u, v] c := by
  refine ⟨own_cache (S1 := S1) (S2 := S2) (own_setC (own_setC N1 ?_) ?_) (own_setC (own_setC N2 ?_) ?_) ?_ ?_ dd, below_setC (below_setC B (by omega)) (by omega)⟩
  · exact fun h => by have := (a1 _ h).1; omega
  · exact fun h => by have := (a1 _ h).1; omega
  · exact fun h => by have := (a2 _ h).1; omega
  · exact fun h => by have := (a2 _ h).1; omega
  · intro x h
    exact ⟨by have := (a1 _ h).1; omega, by have := (a1 _ h).2; simp; omega⟩
  · intro x h
    exact ⟨by have := (a2 _ h).1; omega, by have := (a2 _ h).2; simp; omega⟩

theorem madeR_on {α : Type} {R : Rep α} {w w1 w2 : World} {cs : List Value} {u : α} (h : MadeR R w w1 cs u) (hb : Below w1.heap.size w1 w2) : MadeR R w w2 cs u :=
  ⟨R.own_mono (own_next h.1 hb) (rng_sub (Nat.le_refl _) hb.size), below_step h.2 hb⟩

set_option maxRecDepth 8000 in
set_option maxHeartbeats 4000000 in
theorem implDropped_any (a b : Option Addr) (c : CacheD) (cap cp : Nat) (line : Int) (w : World) (h1 : SlRd waysR w a c.1) (h2 : SlRd intR w b c.2) (m1 : c.1.length ≤ maxLen) (m2 : c.2.length ≤ maxLen) (m3 : ∀ row ∈ c.1, row.length ≤ maxLen) :
    Calls Try.prog 11 #[.agg #[.slice a c.1.length cap, .slice b c.2.length cp], .int .i64 line] w fun e w' => ∃ av cv bv dv, e = .returned (.tuple #[.agg #[.slice av (dropI c line).1.1.length cv, .slice bv (dropI c line).1.2.length dv], .bool (dropI c line).2]) ∧
      MadeR cacheR w w' [.slice av (dropI c line).1.1.length cv, .slice bv (dropI c line).1.2.length dv] (dropI c line).1 := by
  have HOK : Hid (∀ W, Below w.heap.size w W → Calls Try.prog 18 #[.agg #[.slice a c.1.length cap, .slice b c.2.length cp]] W fun e w' => e = .returned (.bool (okB isL treeB c)) ∧ Below W.heap.size W w') := fun W hb =>
    implCacheOk_any a b c cap cp W (slrd_keep h1 fun k hk => hb.block k hk) (slrd_keep h2 fun k hk => hb.block k hk) m1 m2 m3
  have X := heap_on (.cells #[.slice none 0 0, .slice none 0 0] 27) (heap_at w (.cells #[.slice a c.1.length cap, .slice b c.2.length cp] 27))
  have Y := heap_at (w.alloc (.cells #[.slice a c.1.length cap, .slice b c.2.length cp] 27)) (.cells #[.slice none 0 0, .slice none 0 0] 27)
  rw [alloc_len] at Y
  have B := below_step (box_below w (.cells #[.slice a c.1.length cap, .slice b c.2.length cp] 27)) (box_below _ (.cells #[.slice none 0 0, .slice none 0 0] 27))
  cases hok : okB isL treeB c
  · rw [hok] at HOK
    rw [drop_bad hok]
    show Calls Try.prog 11 _ w fun e w' => ∃ av cv bv dv, e = .returned (.tuple #[.agg #[.slice av 0 cv, .slice bv 0 dv], .bool false]) ∧ MadeR cacheR w w' [.slice av 0 cv, .slice bv 0 dv] (([], []) : CacheD)
    clear h1 h2 m1 m2 m3
    go_enter Try.func11, Try.ntmps11
    go_wp2_with fail
    generalize (w.alloc (.cells #[.slice a c.1.length cap, .slice b c.2.length cp] 27)).alloc (.cells #[.slice none 0 0, .slice none 0 0] 27) = W0 at X Y B ⊢
    refine (HOK.out _ B).mono ?_
    rintro e w1 ⟨rfl, b1⟩
    replace B := below_step B b1
    replace Y := row_keep b1 Y
    clear b1 X HOK
    obtain ⟨y0, y1⟩ := cells_two Y
    obtain ⟨f0, f1⟩ := cells_froz2 Y
    have HY : Hid _ := Y
    clear Y
    go_wp2
    obtain ⟨r0, r1⟩ := cell_two (put2 (a := .slice none 0 0) (b := .slice none 0 0) HY.out)
    refine bodyPost_ret (v := .tuple #[.agg #[.slice none 0 0, .slice none 0 0], .bool false]) (by simp [results, Try.results11, go_sem, r0, r1]) rfl ⟨none, 0, none, 0, rfl, own_two_nils _ _, below_setC (below_setC B (by omega)) (by omega)⟩
  · have hokc := okB_iff.1 hok
    rw [hok] at HOK
    obtain ⟨k1, k2, k3⟩ := ok_small hokc
    obtain ⟨hp4, mw, hm4, hrw⟩ := ok_rows hokc
    have CP : Hid (∀ W, Below w.heap.size w W → Calls Try.prog 39 #[.agg #[.slice a c.1.length cap, .slice b c.2.length cp]] W fun e w' => ∃ av cv bv dv, e = .returned (.agg #[.slice av c.1.length cv, .slice bv c.2.length dv]) ∧ MadeR cacheR W w' [.slice av c.1.length cv, .slice bv c.2.length dv] c) := fun W hb =>
      implCopied_any a b c cap cp mw W (slrd_keep h1 fun k hk => hb.block k hk) (slrd_keep h2 fun k hk => hb.block k hk) hp4 hm4 hrw (by omega) (fun row hr u hu => (k3 row hr).2 u hu)
    have HFD : Hid (∀ (av bv : Option Addr) (cv dv : Nat) (W : World), SlRd waysR W av c.1 → Calls Try.prog 44 #[.agg #[.slice av c.1.length cv, .slice bv c.2.length dv], .int .i64 line] W fun e w' => e = .returned (.tuple #[.agg #[.int .i64 (findP c line).1, .int .i64 (findP c line).2.1], .bool (findP c line).2.2]) ∧ Below W.heap.size W w') :=
      fun av bv cv dv W hr => implFind_any av bv c cv dv line W hokc hr
    clear h1 h2 m1 m2 m3 hp4 hm4 hrw
    have e0 : ((w.alloc (.cells #[.slice a c.1.length cap, .slice b c.2.length cp] 27)).alloc (.cells #[.slice none 0 0, .slice none 0 0] 27)).heap.size = w.heap.size + 2 := by simp
    cases hat : atC c line with
    | none =>
      rw [drop_none hokc hat]
      have hq : (findP c line).2.2 = false := by rw [findP_eq hokc, hat]; split <;> rfl
      rw [hq] at HFD
      clear hokc hq hok k1 k2 k3
      generalize (findP c line).1 = p1 at HFD
      generalize (findP c line).2.1 = p2 at HFD
      go_enter Try.func11, Try.ntmps11
      go_wp2_with fail
      generalize (w.alloc (.cells #[.slice a c.1.length cap, .slice b c.2.length cp] 27)).alloc (.cells #[.slice none 0 0, .slice none 0 0] 27) = W0 at X Y B e0 ⊢
      refine (HOK.out _ B).mono ?_
      rintro e w1 ⟨rfl, b1⟩
      have z1 := b1.size
      replace B := below_step B b1
      replace Y := row_keep b1 Y
      replace X := row_keep b1 X
      clear b1 HOK
      obtain ⟨x0, x1⟩ := cells_two X
      go_wp2_with fail
      refine (CP.out _ B).mono ?_
      rintro e w2 ⟨av, cv, bv, dv, rfl, mm⟩
      have z2 := mm.2.size
      obtain ⟨u', v', S1, S2, he, o1, o2, a1, a2, dd⟩ := cache_own mm.1
      simp only [List.cons.injEq, and_true] at he
      obtain ⟨rfl, rfl⟩ := he
      replace B := below_step B mm.2
      replace Y := row_keep mm.2 Y
      clear mm CP X x0 x1
      go_wp2_with fail
      have O := heap_at w2 (.cells #[.slice av c.1.length cv, .slice bv c.2.length dv] 27)
      replace B := below_step B (box_below w2 (.cells #[.slice av c.1.length cv, .slice bv c.2.length dv] 27))
      replace Y := heap_on (.cells #[.slice av c.1.length cv, .slice bv c.2.length dv] 27) Y
      replace o1 := own_box (.cells #[.slice av c.1.length cv, .slice bv c.2.length dv] 27) o1
      replace o2 := own_box (.cells #[.slice av c.1.length cv, .slice bv c.2.length dv] 27) o2
      have e3 : (w2.alloc (.cells #[.slice av c.1.length cv, .slice bv c.2.length dv] 27)).heap.size = w2.heap.size + 1 := by simp
      generalize w2.alloc (.cells #[.slice av c.1.length cv, .slice bv c.2.length dv] 27) = w3 at B Y O o1 o2 e3 ⊢
      obtain ⟨a9, c9, e9, hrd⟩ := sets_rd o1
      simp only [Value.slice.injEq, true_and] at e9
      obtain ⟨rfl, rfl⟩ := e9
      refine (HFD.out _ _ _ _ _ hrd).mono ?_
      rintro e w4 ⟨rfl, b1⟩
      have z3 := b1.size
      replace B := below_step B b1
      replace Y := row_keep b1 Y
      replace O := row_keep b1 O
      replace o1 := setsR.own_keep o1 (keeps_below b1)
      replace o2 := intsR.own_keep o2 (keeps_below b1)
      obtain ⟨y0, y1⟩ := cells_two Y
      obtain ⟨f0, f1⟩ := cells_froz2 Y
      obtain ⟨p0, p1'⟩ := cells_two O
      have ly := (Array.getElem?_eq_some_iff.1 Y).1
      have lo := (Array.getElem?_eq_some_iff.1 O).1
      have HK : Hid _ := And.intro o1 (And.intro o2 (And.intro Y B))
      have HA : Hid _ := And.intro a1 (And.intro a2 dd)
      clear o1 o2 O Y B a1 a2 dd b1 hrd HFD
      go_wp2
      obtain ⟨o1, o2, Y, B⟩ := HK.out
      obtain ⟨a1, a2, dd⟩ := HA.out
      obtain ⟨r0, r1⟩ := cell_two (heap_on (.cells #[.int .i64 p1, .int .i64 p2] 65) (put2 (a := .slice av c.1.length cv) (b := .slice bv c.2.length dv) Y))
      refine bodyPost_ret (v := .tuple #[.agg #[.slice av c.1.length cv, .slice bv c.2.length dv], .bool false]) (by simp [results, Try.results11, go_sem, r0, r1]) rfl ⟨av, cv, bv, dv, rfl, madeR_on (ret_cache o1 o2 (fun k h => ?_) (fun k h => ?_) dd B) (box_below _ _)⟩
      · have := (a1 k h).1
        have := (a1 k h).2
        exact ⟨by omega, by omega⟩
      · have := (a2 k h).1
        have := (a2 k h).2
        exact ⟨by omega, by omega⟩
    | some fi =>
      obtain ⟨hl0, uw, huw, hul⟩ := at_some hat
      obtain ⟨hp, hget, hne0, hr4, hset, hsl⟩ := ok_row hokc line
      have hb : betw line 0 15 = true := by
        cases hbb : betw line 0 15
        · rw [at_out hokc hbb] at hat
          cases hat
        · rfl
      rw [drop_some hokc hat]
      have hq : findP c line = (((setNo c line : Nat) : Int), (fi : Int), true) := by rw [findP_eq hokc, if_pos hb, hat]; rfl
      rw [hq] at HFD
      have HG : Hid _ := And.intro hget (And.intro huw (And.intro k1 hr4))
      show Calls Try.prog 11 _ w fun e w' => ∃ av cv bv dv, e = .returned (.tuple #[.agg #[.slice av (c.1.set (setNo c line) ((rowFor c line).set fi emptyW)).length cv, .slice bv c.2.length dv], .bool true]) ∧ MadeR cacheR w w' [.slice av (c.1.set (setNo c line) ((rowFor c line).set fi emptyW)).length cv, .slice bv c.2.length dv] (c.1.set (setNo c line) ((rowFor c line).set fi emptyW), c.2)
      rw [List.length_set]
      clear hokc hq hok k1 k2 k3 hget huw hul hp hne0 hr4 hset hsl hb hat hl0
      generalize rowFor c line = row at *
      generalize setNo c line = sn at *
      go_enter Try.func11, Try.ntmps11
      go_wp2_with fail
      generalize (w.alloc (.cells #[.slice a c.1.length cap, .slice b c.2.length cp] 27)).alloc (.cells #[.slice none 0 0, .slice none 0 0] 27) = W0 at X Y B e0 ⊢
      refine (HOK.out _ B).mono ?_
      rintro e w1 ⟨rfl, b1⟩
      have z1 := b1.size
      replace B := below_step B b1
      replace Y := row_keep b1 Y
      replace X := row_keep b1 X
      clear b1 HOK
      obtain ⟨x0, x1⟩ := cells_two X
      go_wp2_with fail
      refine (CP.out _ B).mono ?_
      rintro e w2 ⟨av, cv, bv, dv, rfl, mm⟩
      have z2 := mm.2.size
      obtain ⟨u', v', S1, S2, he, o1, o2, a1, a2, dd⟩ := cache_own mm.1
      simp only [List.cons.injEq, and_true] at he
      obtain ⟨rfl, rfl⟩ := he
      replace B := below_step B mm.2
      replace Y := row_keep mm.2 Y
      clear mm CP X x0 x1
      go_wp2_with fail
      have O := heap_at w2 (.cells #[.slice av c.1.length cv, .slice bv c.2.length dv] 27)
      replace B := below_step B (box_below w2 (.cells #[.slice av c.1.length cv, .slice bv c.2.length dv] 27))
      replace Y := heap_on (.cells #[.slice av c.1.length cv, .slice bv c.2.length dv] 27) Y
      replace o1 := own_box (.cells #[.slice av c.1.length cv, .slice bv c.2.length dv] 27) o1
      replace o2 := own_box (.cells #[.slice av c.1.length cv, .slice bv c.2.length dv] 27) o2
      have e3 : (w2.alloc (.cells #[.slice av c.1.length cv, .slice bv c.2.length dv] 27)).heap.size = w2.heap.size + 1 := by simp
      generalize w2.alloc (.cells #[.slice av c.1.length cv, .slice bv c.2.length dv] 27) = w3 at B Y O o1 o2 e3 ⊢
      obtain ⟨a9, c9, e9, hrd⟩ := sets_rd o1
      simp only [Value.slice.injEq, true_and] at e9
      obtain ⟨rfl, rfl⟩ := e9
      refine (HFD.out _ _ _ _ _ hrd).mono ?_
      rintro e w4 ⟨rfl, b1⟩
      go_wp2
      have bz := box_below w4 (.cells #[.int .i64 (sn : Int), .int .i64 (fi : Int)] 65)
      have Z := heap_at w4 (.cells #[.int .i64 (sn : Int), .int .i64 (fi : Int)] 65)
      have b2 := below_step b1 bz
      have z3 := b1.size
      have z4 : (w4.alloc (.cells #[.int .i64 (sn : Int), .int .i64 (fi : Int)] 65)).heap.size = w4.heap.size + 1 := by simp
      replace B := below_step B b2
      replace Y := row_keep b2 Y
      replace O := row_keep b2 O
      replace o1 := setsR.own_keep o1 (keeps_below b2)
      replace o2 := intsR.own_keep o2 (keeps_below b2)
      clear b1 bz b2 hrd HFD
      generalize w4.alloc (.cells #[.int .i64 (sn : Int), .int .i64 (fi : Int)] 65) = w5 at *
      obtain ⟨p0, p1⟩ := cells_two O
      obtain ⟨q0, q1⟩ := cells_two Z
      have HK : Hid (setsR.own w5 S1 [.slice av c.1.length cv] c.1 ∧ intsR.own w5 S2 [.slice bv c.2.length dv] c.2 ∧ w5.heap[w.heap.size + 1]? = some (.cells #[.slice none 0 0, .slice none 0 0] 27 (0, 0)) ∧ w5.heap[w2.heap.size]? = some (.cells #[.slice av c.1.length cv, .slice bv c.2.length dv] 27 (0, 0)) ∧ w5.heap[w4.heap.size]? = some (.cells #[.int .i64 (sn : Int), .int .i64 (fi : Int)] 65 (0, 0)) ∧ Below w.heap.size w w5) := ⟨o1, o2, Y, O, Z, B⟩
      have HA : Hid (Sub S1 (rng w1.heap.size w2.heap.size) ∧ Sub S2 (rng w1.heap.size w2.heap.size) ∧ Dis S1 S2) := ⟨a1, a2, dd⟩
      clear o1 o2 O Y Z B a1 a2 dd
      go_region_held3 (fun wx => wx.cell? ⟨w2.heap.size, 0, none⟩ = some (.slice av c.1.length cv) ∧ wx.cell? ⟨w2.heap.size, 1, none⟩ = some (.slice bv c.2.length dv) ∧ wx.cell? ⟨w4.heap.size, 0, none⟩ = some (.int .i64 (sn : Int)) ∧ wx.cell? ⟨w4.heap.size, 1, none⟩ = some (.int .i64 (fi : Int))) (first | (go_keep; done)) (first | (go_at_call 45; refine (emptyWay_any _).mono ?_; rintro e w9 ⟨ad, cpw, rfl, mm⟩; have O9 := row_keep (w := w5.drew) mm.2 HK.out.2.2.2.1; have Z9 := row_keep (w := w5.drew) mm.2 HK.out.2.2.2.2.1; have Y9 := row_keep (w := w5.drew) mm.2 HK.out.2.2.1; obtain ⟨p0', p1'⟩ := cells_two O9; obtain ⟨q0', q1'⟩ := cells_two Z9; have N1 : setsR.own w9 S1 [.slice av c.1.length cv] c.1 := setsR.own_keep (w := w5.drew) (setsR.own_keep HK.out.1 (fun k _ _ => rfl)) (keeps_below mm.2); have N2 : intsR.own w9 S2 [.slice bv c.2.length dv] c.2 := intsR.own_keep (w := w5.drew) (intsR.own_keep HK.out.2.1 (fun k _ _ => rfl)) (keeps_below mm.2); have B9 : Below w.heap.size w w9 := below_step HK.out.2.2.2.2.2.drew mm.2; have z9 : w5.heap.size ≤ w9.heap.size := mm.2.size; have HN : Hid _ := And.intro O9 (And.intro Z9 (And.intro Y9 (And.intro N1 (And.intro N2 B9)))); clear O9 Z9 Y9 N1 N2 B9 mm) | (go_at_call 42; refine (implPut_any S1 _ _ c.1 sn fi row uw (-1) 0 [] ad cpw _ HN.out.2.2.2.1 HG.out.1 HG.out.2.1 (by have := HG.out.2.2.1; omega) (by have := HG.out.2.2.2; omega) (by constructor <;> decide) (by constructor <;> decide) (.inl rfl) (by simp)).mono ?_; rintro e w10 ⟨rfl, M1, CH⟩; obtain ⟨O9, Z9, Y9, N1, N2, B9⟩ := HN.out; obtain ⟨a1, a2, dd⟩ := HA.out; have nS : ∀ x, ¬ (w1.heap.size ≤ x ∧ x < w2.heap.size) → ¬ Old w9 S1 x := fun x hx h => hx ⟨(a1 x h.1).1, (a1 x h.1).2⟩; have z10 := CH.size; replace O9 := (CH.block _ (by omega) (nS w2.heap.size (by omega))).trans O9; replace Z9 := (CH.block _ (by omega) (nS w4.heap.size (by omega))).trans Z9; replace Y9 := (CH.block _ (by omega) (nS (w.heap.size + 1) (by omega))).trans Y9; replace N2 := own_chg N2 CH (fun x h1 h2 => dd x h2.1 h1); replace B9 := CH.below B9 (fun x h => by have := (a1 x h.1).1; omega) (by omega); obtain ⟨p0', p1'⟩ := cells_two O9; obtain ⟨q0', q1'⟩ := cells_two Z9; obtain ⟨y0, y1⟩ := cells_two Y9; obtain ⟨f0, f1⟩ := cells_froz2 Y9; have HN2 : Hid _ := And.intro Y9 (And.intro M1 (And.intro N2 B9)); clear O9 Z9 Y9 N1 N2 B9 nS CH M1 a1 a2 dd))
      all_goals
        go_wp2
        obtain ⟨Y, M1, o2, B⟩ := HN2.out
        obtain ⟨a1, a2, dd⟩ := HA.out
        obtain ⟨r0, r1⟩ := cell_two (put2 (a := .slice av c.1.length cv) (b := .slice bv c.2.length dv) Y)
        refine bodyPost_ret (v := .tuple #[.agg #[.slice av c.1.length cv, .slice bv c.2.length dv], .bool true]) (by simp [results, Try.results11, go_sem, r0, r1]) rfl ⟨av, cv, bv, dv, rfl, ret_cache M1 o2 (fun k h => ?_) (fun k h => ?_) (fun k h ht => ?_) B⟩
        · rcases h with h | h
          · have := (a1 k h.1).1
            have := (a1 k h.1).2
            exact ⟨by omega, by omega⟩
          · exact ⟨by omega, by omega⟩
        · have := (a2 k h).1
          have := (a2 k h).2
          exact ⟨by omega, by omega⟩
        · rcases h with h | h
          · exact dd k h.1 ht
          · have := (a2 k ht).2
            omega

end Go.Proofs.Ytnalbbfilejokaa
