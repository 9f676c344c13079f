
/- FillImpl. -/
import Derived.Test.YthbclkpmgcfdnaaGreatDoorFillSpec
/- A way filled into a store, by the program. No condition but lengths that a machine can hold. -/
namespace Go.Proofs.YthbclkpmgcfdnaaGreatDoor
open Go.ChangeShapes Go.WideShapes Go.ChangeAt Go.RowKit
set_option linter.unusedVariables false
/- A store that was made is laid as the answer, whose cells lie in the block r. -/
theorem ret_cache2 {w w4 : World} {S1 S2 : Foot} {u v : Value} {c : CacheD} (r : Nat) (hr : w.heap.size ≤ r) (N1 : setsR.own w4 S1 [u] c.1) (N2 : intsR.own w4 S2 [v] c.2) (a1 : ∀ k, S1 k → r + 1 ≤ k ∧ k < w4.heap.size) (a2 : ∀ k, S2 k → r + 1 ≤ k ∧ k < w4.heap.size) (dd : Dis S1 S2) (B : Below w.heap.size w w4) :
    MadeR cacheR w ((w4.setCell ⟨r, 0, none⟩ u).setCell ⟨r, 1, none⟩ v) [u, v] c := by
  refine ⟨own_cache (S1 := S1) (S2 := S2) (own_setC (own_setC N1 ?_) ?_) (own_setC (own_setC N2 ?_) ?_) ?_ ?_ dd, below_setC (below_setC B hr) hr⟩
  · exact fun h => by have := (a1 _ h).1; omega
  · exact fun h => by have := (a1 _ h).1; omega
  · exact fun h => by have := (a2 _ h).1; omega
  · exact fun h => by have := (a2 _ h).1; omega
  · intro x h
    exact ⟨by have := (a1 _ h).1; omega, by have := (a1 _ h).2; simp; omega⟩
  · intro x h
    exact ⟨by have := (a2 _ h).1; omega, by have := (a2 _ h).2; simp; omega⟩
theorem three_at {w : World} {o1 o2 o3 : Obj} : (((w.alloc o1).alloc o2).alloc o3).heap[w.heap.size]? = some o1 ∧ (((w.alloc o1).alloc o2).alloc o3).heap[w.heap.size + 1]? = some o2 ∧ (((w.alloc o1).alloc o2).alloc o3).heap[w.heap.size + 1 + 1]? = some o3 ∧ Below w.heap.size w (((w.alloc o1).alloc o2).alloc o3) ∧ (((w.alloc o1).alloc o2).alloc o3).heap.size = w.heap.size + 3 := by
  have h2 := heap_on o3 (heap_at (w.alloc o1) o2)
  have h3 := heap_at ((w.alloc o1).alloc o2) o3
  rw [alloc_len] at h2
  rw [alloc_len, alloc_len] at h3
  exact ⟨heap_on o3 (heap_on o2 (heap_at w o1)), h2, h3, below_step (below_step (box_below w o1) (box_below _ o2)) (box_below _ o3), by simp⟩
set_option maxRecDepth 8000 in
set_option maxHeartbeats 8000000 in
theorem implFilled_any (a b : Option Addr) (c : CacheD) (cap cp : Nat) (l st : Int) (d : List Int) (ad : Option Addr) (cpw : Nat) (w : World) (h1 : SlRd waysR w a c.1) (h2 : SlRd intR w b c.2) (m1 : c.1.length ≤ maxLen) (m2 : c.2.length ≤ maxLen) (m3 : ∀ row ∈ c.1, row.length ≤ maxLen) (i1 : In64 l) (i2 : In64 st) (hd : SlRd intR w ad d) (hdl : d.length ≤ 1048576) :
    Calls Tryz.prog 162 #[.agg #[.slice a c.1.length cap, .slice b c.2.length cp], .agg #[.int .i64 l, .int .i64 st, .slice ad d.length cpw]] w fun e w' => ∃ av cv bv dv, e = .returned (.tuple #[.agg #[.slice av (fillI c (l, st, d)).1.1.length cv, .slice bv (fillI c (l, st, d)).1.2.length dv], .bool (fillI c (l, st, d)).2]) ∧
      MadeR cacheR w w' [.slice av (fillI c (l, st, d)).1.1.length cv, .slice bv (fillI c (l, st, d)).1.2.length dv] (fillI c (l, st, d)).1 := by
  have HOK : Hid (∀ W, Below w.heap.size w W → Calls Tryz.prog 60 #[.agg #[.slice a c.1.length cap, .slice b c.2.length cp]] W fun e w' => e = .returned (.bool (okB isL treeB c)) ∧ Below W.heap.size W w') := fun W hb =>
    implCacheOk_any a b c cap cp W (slrd_keep h1 fun k hk => hb.block k hk) (slrd_keep h2 fun k hk => hb.block k hk) m1 m2 m3
  have HF : Hid (∀ W, Below w.heap.size w W → Calls Tryz.prog 131 #[.agg #[.int .i64 l, .int .i64 st, .slice ad d.length cpw]] W fun e w' => e = .returned (.bool (fullB isL (l, st, d))) ∧ Below W.heap.size W w') := fun W hb =>
    implFull_any l st d ad cpw W (slrd_keep hd fun k hk => hb.block k hk)
  have HD : Hid (∀ W, Below w.heap.size w W → SlRd intR W ad d) := fun W hb => slrd_keep hd fun k hk => hb.block k hk
  obtain ⟨X, V, Y, B, e0⟩ := three_at (w := w) (o1 := (.cells #[.slice a c.1.length cap, .slice b c.2.length cp] 27)) (o2 := (.cells #[.int .i64 l, .int .i64 st, .slice ad d.length cpw] 30)) (o3 := (.cells #[.slice none 0 0, .slice none 0 0] 27))
  clear hd
  cases hok : okB isL treeB c
  · rw [hok] at HOK
    rw [fill_bad hok]
    show Calls Tryz.prog 162 _ w fun e w' => ∃ av cv bv dv, e = .returned (.tuple #[.agg #[.slice av 0 cv, .slice bv 0 dv], .bool false]) ∧ MadeR cacheR w w' [.slice av 0 cv, .slice bv 0 dv] (([], []) : CacheD)
    clear h1 h2 m1 m2 m3 HF HD V
    go_enter Tryz.func162, Tryz.ntmps162
    go_wp2_with fail
    generalize ((w.alloc (.cells #[.slice a c.1.length cap, .slice b c.2.length cp] 27)).alloc (.cells #[.int .i64 l, .int .i64 st, .slice ad d.length cpw] 30)).alloc (.cells #[.slice none 0 0, .slice none 0 0] 27) = W0 at X Y B e0 ⊢
    refine (HOK.out _ B).mono ?_
    rintro e w1 ⟨rfl, b1⟩
    replace B := below_step B b1
    replace Y := row_keep b1 Y
    clear b1 X HOK
    obtain ⟨y0, y1⟩ := cells_two Y
    obtain ⟨f0, f1⟩ := cells_froz2 Y
    have HY : Hid _ := Y
    clear Y
    go_wp2
    obtain ⟨r0, r1⟩ := cell_two (put2 (a := .slice none 0 0) (b := .slice none 0 0) HY.out)
    refine bodyPost_ret (v := .tuple #[.agg #[.slice none 0 0, .slice none 0 0], .bool false]) (by simp [results, Tryz.results162, go_sem, r0, r1]) rfl ⟨none, 0, none, 0, rfl, own_two_nils _ _, below_setC (below_setC B (by omega)) (by omega)⟩
  · have hokc := okB_iff.1 hok
    rw [hok] at HOK
    obtain ⟨k1, k2, k3⟩ := ok_small hokc
    obtain ⟨hp4, mw, hm4, hrw⟩ := ok_rows hokc
    have CP : Hid (∀ W, Below w.heap.size w W → Calls Tryz.prog 105 #[.agg #[.slice a c.1.length cap, .slice b c.2.length cp]] W fun e w' => ∃ av cv bv dv, e = .returned (.agg #[.slice av c.1.length cv, .slice bv c.2.length dv]) ∧ MadeR cacheR W w' [.slice av c.1.length cv, .slice bv c.2.length dv] c) := fun W hb =>
      implCopied_any a b c cap cp mw W (slrd_keep h1 fun k hk => hb.block k hk) (slrd_keep h2 fun k hk => hb.block k hk) hp4 hm4 hrw (by omega) (fun row hr u hu => (k3 row hr).2 u hu)
    clear h1 h2 m1 m2 m3 hp4 hm4 hrw
    cases hfl : fullB isL (l, st, d)
    · rw [hfl] at HF
      rw [fill_not hokc hfl]
      clear hokc hok k1 k2 k3 HD
      go_enter Tryz.func162, Tryz.ntmps162
      go_wp2_with fail
      generalize ((w.alloc (.cells #[.slice a c.1.length cap, .slice b c.2.length cp] 27)).alloc (.cells #[.int .i64 l, .int .i64 st, .slice ad d.length cpw] 30)).alloc (.cells #[.slice none 0 0, .slice none 0 0] 27) = W0 at X V Y B e0 ⊢
      refine (HOK.out _ B).mono ?_
      rintro e w1 ⟨rfl, b1⟩
      have z1 := b1.size
      replace B := below_step B b1
      replace Y := row_keep b1 Y
      replace V := row_keep b1 V
      replace X := row_keep b1 X
      clear b1 HOK
      obtain ⟨x0, x1⟩ := cells_two X
      go_wp2_with fail
      refine (CP.out _ B).mono ?_
      rintro e w2 ⟨av, cv, bv, dv, rfl, mm⟩
      have z2 := mm.2.size
      obtain ⟨u', v', S1, S2, he, o1, o2, a1, a2, dd⟩ := cache_own mm.1
      simp only [List.cons.injEq, and_true] at he
      obtain ⟨rfl, rfl⟩ := he
      replace B := below_step B mm.2
      replace Y := row_keep mm.2 Y
      replace V := row_keep mm.2 V
      clear mm CP X x0 x1
      obtain ⟨v0, v1, v2⟩ := cells_three V
      have lv := (Array.getElem?_eq_some_iff.1 V).1
      go_wp2_with fail
      have O := heap_at w2 (.cells #[.slice av c.1.length cv, .slice bv c.2.length dv] 27)
      have bx := box_below w2 (.cells #[.slice av c.1.length cv, .slice bv c.2.length dv] 27)
      replace B := below_step B bx
      replace Y := row_keep bx Y
      replace V := row_keep bx V
      replace o1 := own_box (.cells #[.slice av c.1.length cv, .slice bv c.2.length dv] 27) o1
      replace o2 := own_box (.cells #[.slice av c.1.length cv, .slice bv c.2.length dv] 27) o2
      have e3 : (w2.alloc (.cells #[.slice av c.1.length cv, .slice bv c.2.length dv] 27)).heap.size = w2.heap.size + 1 := by simp
      clear bx v0 v1 v2 lv
      generalize w2.alloc (.cells #[.slice av c.1.length cv, .slice bv c.2.length dv] 27) = w3 at B Y V O o1 o2 e3 ⊢
      refine (HF.out _ B).mono ?_
      rintro e w4 ⟨rfl, b1⟩
      have z4 := b1.size
      replace B := below_step B b1
      replace Y := row_keep b1 Y
      replace V := row_keep b1 V
      replace O := row_keep b1 O
      replace o1 := setsR.own_keep o1 (keeps_below b1)
      replace o2 := intsR.own_keep o2 (keeps_below b1)
      clear b1 HF
      obtain ⟨y0, y1⟩ := cells_two Y
      obtain ⟨f0, f1⟩ := cells_froz2 Y
      obtain ⟨p0, p1'⟩ := cells_two O
      have HK : Hid _ := And.intro o1 (And.intro o2 (And.intro Y B))
      have HA : Hid _ := And.intro a1 (And.intro a2 dd)
      clear o1 o2 O Y V B a1 a2 dd
      go_wp2
      obtain ⟨o1, o2, Y, B⟩ := HK.out
      obtain ⟨a1, a2, dd⟩ := HA.out
      obtain ⟨r0, r1⟩ := cell_two (put2 (a := .slice av c.1.length cv) (b := .slice bv c.2.length dv) Y)
      refine bodyPost_ret (v := .tuple #[.agg #[.slice av c.1.length cv, .slice bv c.2.length dv], .bool false]) (by simp [results, Tryz.results162, go_sem, r0, r1]) rfl ⟨av, cv, bv, dv, rfl, ret_cache2 (w.heap.size + 1 + 1) (by omega) o1 o2 (fun k h => ?_) (fun k h => ?_) dd B⟩
      · have := (a1 k h).1
        have := (a1 k h).2
        exact ⟨by omega, by omega⟩
      · have := (a2 k h).1
        have := (a2 k h).2
        exact ⟨by omega, by omega⟩
    · rw [hfl] at HF
      have hl15 := full_line hfl
      simp only at hl15
      have hbw : betw l 0 15 = true := by simp [betw]; omega
      have HRM : Hid (∀ (av bv : Option Addr) (cv dv : Nat) (W : World), SlRd waysR W av c.1 → Calls Tryz.prog 163 #[.agg #[.slice av c.1.length cv, .slice bv c.2.length dv], .int .i64 l] W fun e w' => e = .returned (.tuple #[.agg #[.int .i64 ((setNo c l : Nat) : Int), .int .i64 (idxI (putNo c l))], .bool (putNo c l).isSome]) ∧ Below W.heap.size W w') :=
        fun av bv cv dv W hr => by
          have := implRoom_any av bv c cv dv l W hokc hr (by omega)
          rwa [roomP_eq hokc hbw] at this
      cases hpn : putNo c l with
      | none =>
        rw [fill_none (u := (l, st, d)) hokc hpn]
        rw [hpn] at HRM
        clear hokc hok k1 k2 k3 HD hl15 hbw
        generalize ((setNo c l : Nat) : Int) = p1 at HRM
        generalize idxI none = p2 at HRM
        go_enter Tryz.func162, Tryz.ntmps162
        go_wp2_with fail
        generalize ((w.alloc (.cells #[.slice a c.1.length cap, .slice b c.2.length cp] 27)).alloc (.cells #[.int .i64 l, .int .i64 st, .slice ad d.length cpw] 30)).alloc (.cells #[.slice none 0 0, .slice none 0 0] 27) = W0 at X V Y B e0 ⊢
        refine (HOK.out _ B).mono ?_
        rintro e w1 ⟨rfl, b1⟩
        have z1 := b1.size
        replace B := below_step B b1
        replace Y := row_keep b1 Y
        replace V := row_keep b1 V
        replace X := row_keep b1 X
        clear b1 HOK
        obtain ⟨x0, x1⟩ := cells_two X
        go_wp2_with fail
        refine (CP.out _ B).mono ?_
        rintro e w2 ⟨av, cv, bv, dv, rfl, mm⟩
        have z2 := mm.2.size
        obtain ⟨u', v', S1, S2, he, o1, o2, a1, a2, dd⟩ := cache_own mm.1
        simp only [List.cons.injEq, and_true] at he
        obtain ⟨rfl, rfl⟩ := he
        replace B := below_step B mm.2
        replace Y := row_keep mm.2 Y
        replace V := row_keep mm.2 V
        clear mm CP X x0 x1
        obtain ⟨v0, v1, v2⟩ := cells_three V
        have lv := (Array.getElem?_eq_some_iff.1 V).1
        go_wp2_with fail
        have O := heap_at w2 (.cells #[.slice av c.1.length cv, .slice bv c.2.length dv] 27)
        have bx := box_below w2 (.cells #[.slice av c.1.length cv, .slice bv c.2.length dv] 27)
        replace B := below_step B bx
        replace Y := row_keep bx Y
        replace V := row_keep bx V
        replace o1 := own_box (.cells #[.slice av c.1.length cv, .slice bv c.2.length dv] 27) o1
        replace o2 := own_box (.cells #[.slice av c.1.length cv, .slice bv c.2.length dv] 27) o2
        have e3 : (w2.alloc (.cells #[.slice av c.1.length cv, .slice bv c.2.length dv] 27)).heap.size = w2.heap.size + 1 := by simp
        clear bx v0 v1 v2 lv
        generalize w2.alloc (.cells #[.slice av c.1.length cv, .slice bv c.2.length dv] 27) = w3 at B Y V O o1 o2 e3 ⊢
        refine (HF.out _ B).mono ?_
        rintro e w4 ⟨rfl, b1⟩
        have z4 := b1.size
        replace B := below_step B b1
        replace Y := row_keep b1 Y
        replace V := row_keep b1 V
        replace O := row_keep b1 O
        replace o1 := setsR.own_keep o1 (keeps_below b1)
        replace o2 := intsR.own_keep o2 (keeps_below b1)
        clear b1 HF
        obtain ⟨v0, v1, v2⟩ := cells_three V
        obtain ⟨p0, p1'⟩ := cells_two O
        go_wp2_with fail
        clear v0 v1 v2 p0 p1'
        obtain ⟨a9, c9, e9, hrd⟩ := sets_rd o1
        simp only [Value.slice.injEq, true_and] at e9
        obtain ⟨rfl, rfl⟩ := e9
        refine (HRM.out _ _ _ _ _ hrd).mono ?_
        rintro e w5 ⟨rfl, b1⟩
        have z5 := b1.size
        replace B := below_step B b1
        replace Y := row_keep b1 Y
        replace O := row_keep b1 O
        replace o1 := setsR.own_keep o1 (keeps_below b1)
        replace o2 := intsR.own_keep o2 (keeps_below b1)
        obtain ⟨y0, y1⟩ := cells_two Y
        obtain ⟨f0, f1⟩ := cells_froz2 Y
        obtain ⟨p0, p1'⟩ := cells_two O
        have ly := (Array.getElem?_eq_some_iff.1 Y).1
        have lo := (Array.getElem?_eq_some_iff.1 O).1
        have HK : Hid _ := And.intro o1 (And.intro o2 (And.intro Y B))
        have HA : Hid _ := And.intro a1 (And.intro a2 dd)
        clear o1 o2 O Y V B a1 a2 dd b1 hrd HRM
        go_wp2
        obtain ⟨o1, o2, Y, B⟩ := HK.out
        obtain ⟨a1, a2, dd⟩ := HA.out
        obtain ⟨r0, r1⟩ := cell_two (heap_on (.cells #[.int .i64 p1, .int .i64 p2] 143) (put2 (a := .slice av c.1.length cv) (b := .slice bv c.2.length dv) Y))
        refine bodyPost_ret (v := .tuple #[.agg #[.slice av c.1.length cv, .slice bv c.2.length dv], .bool false]) (by simp [results, Tryz.results162, go_sem, r0, r1]) rfl ⟨av, cv, bv, dv, rfl, madeR_on (ret_cache2 (w.heap.size + 1 + 1) (by omega) o1 o2 (fun k h => ?_) (fun k h => ?_) dd B) (box_below _ _)⟩
        · have := (a1 k h).1
          have := (a1 k h).2
          exact ⟨by omega, by omega⟩
        · have := (a2 k h).1
          have := (a2 k h).2
          exact ⟨by omega, by omega⟩
      | some fi =>
        obtain ⟨uw, huw⟩ := put_lt hpn
        obtain ⟨hp, hget, hne0, hr4, hset, hsl⟩ := ok_row hokc l
        obtain ⟨t1, t2, t3, t4, t5, t6, t7⟩ := ok_tree hokc l
        rw [fill_at hokc hfl hpn]
        rw [hpn] at HRM
        have hfr : fi < (rowFor c l).length := (List.getElem?_eq_some_iff.1 huw).1
        have h00 : ((c.1.set (setNo c l) ((rowFor c l).set fi (l, st, d))).getD 0 []).length = (rowFor c l).length := by
          rw [List.getD_eq_getElem?_getD, List.getElem?_set]
          by_cases h0 : setNo c l = 0
          · rw [if_pos h0, if_pos hsl]
            simp
          · rw [if_neg h0, t5]
            simp only [Option.getD_some]
            omega
        have HG : Hid _ := And.intro hget (And.intro huw (And.intro k1 (And.intro hr4 (And.intro t2 (And.intro h00 (And.intro hfr t6))))))
        have HTR : Hid (treeB (treeFor c l) ((rowFor c l).length : Int) = true) := by unfold Hid; rw [t1]; exact t3
        show Calls Tryz.prog 162 _ w fun e w' => ∃ av cv bv dv, e = .returned (.tuple #[.agg #[.slice av (c.1.set (setNo c l) ((rowFor c l).set fi (l, st, d))).length cv, .slice bv (c.2.set (setNo c l) (touI (treeFor c l) (rowFor c l).length fi)).length dv], .bool true]) ∧ MadeR cacheR w w' [.slice av (c.1.set (setNo c l) ((rowFor c l).set fi (l, st, d))).length cv, .slice bv (c.2.set (setNo c l) (touI (treeFor c l) (rowFor c l).length fi)).length dv] (c.1.set (setNo c l) ((rowFor c l).set fi (l, st, d)), c.2.set (setNo c l) (touI (treeFor c l) (rowFor c l).length fi))
        rw [List.length_set, List.length_set]
        clear hokc hok k1 k3 hl15 hbw hget huw hp hne0 hr4 hset hsl t1 t2 t3 t4 t5 t6 t7 hpn h00 hfr
        generalize rowFor c l = row at *
        generalize treeFor c l = tr at *
        generalize setNo c l = sn at *
        rw [show idxI (some fi) = (fi : Int) from rfl] at HRM
        go_enter Tryz.func162, Tryz.ntmps162
        go_wp2_with fail
        generalize ((w.alloc (.cells #[.slice a c.1.length cap, .slice b c.2.length cp] 27)).alloc (.cells #[.int .i64 l, .int .i64 st, .slice ad d.length cpw] 30)).alloc (.cells #[.slice none 0 0, .slice none 0 0] 27) = W0 at X V Y B e0 ⊢
        refine (HOK.out _ B).mono ?_
        rintro e w1 ⟨rfl, b1⟩
        have z1 := b1.size
        replace B := below_step B b1
        replace Y := row_keep b1 Y
        replace V := row_keep b1 V
        replace X := row_keep b1 X
        clear b1 HOK
        obtain ⟨x0, x1⟩ := cells_two X
        go_wp2_with fail
        refine (CP.out _ B).mono ?_
        rintro e w2 ⟨av, cv, bv, dv, rfl, mm⟩
        have z2 := mm.2.size
        obtain ⟨u', v', S1, S2, he, o1, o2, a1, a2, dd⟩ := cache_own mm.1
        simp only [List.cons.injEq, and_true] at he
        obtain ⟨rfl, rfl⟩ := he
        replace B := below_step B mm.2
        replace Y := row_keep mm.2 Y
        replace V := row_keep mm.2 V
        clear mm CP X x0 x1
        obtain ⟨v0, v1, v2⟩ := cells_three V
        have lv := (Array.getElem?_eq_some_iff.1 V).1
        go_wp2_with fail
        have O := heap_at w2 (.cells #[.slice av c.1.length cv, .slice bv c.2.length dv] 27)
        have bx := box_below w2 (.cells #[.slice av c.1.length cv, .slice bv c.2.length dv] 27)
        replace B := below_step B bx
        replace Y := row_keep bx Y
        replace V := row_keep bx V
        replace o1 := own_box (.cells #[.slice av c.1.length cv, .slice bv c.2.length dv] 27) o1
        replace o2 := own_box (.cells #[.slice av c.1.length cv, .slice bv c.2.length dv] 27) o2
        have e3 : (w2.alloc (.cells #[.slice av c.1.length cv, .slice bv c.2.length dv] 27)).heap.size = w2.heap.size + 1 := by simp
        clear bx v0 v1 v2 lv
        generalize w2.alloc (.cells #[.slice av c.1.length cv, .slice bv c.2.length dv] 27) = w3 at B Y V O o1 o2 e3 ⊢
        refine (HF.out _ B).mono ?_
        rintro e w4 ⟨rfl, b1⟩
        have z4 := b1.size
        replace B := below_step B b1
        replace Y := row_keep b1 Y
        replace V := row_keep b1 V
        replace O := row_keep b1 O
        replace o1 := setsR.own_keep o1 (keeps_below b1)
        replace o2 := intsR.own_keep o2 (keeps_below b1)
        clear b1 HF
        obtain ⟨v0, v1, v2⟩ := cells_three V
        obtain ⟨p0, p1'⟩ := cells_two O
        go_wp2_with fail
        clear v0 v1 v2 p0 p1'
        obtain ⟨a9, c9, e9, hrd⟩ := sets_rd o1
        simp only [Value.slice.injEq, true_and] at e9
        obtain ⟨rfl, rfl⟩ := e9
        refine (HRM.out _ _ _ _ _ hrd).mono ?_
        rintro e w5 ⟨rfl, b1⟩
        have z5 := b1.size
        replace B := below_step B b1
        replace Y := row_keep b1 Y
        replace V := row_keep b1 V
        replace O := row_keep b1 O
        replace o1 := setsR.own_keep o1 (keeps_below b1)
        replace o2 := intsR.own_keep o2 (keeps_below b1)
        clear b1 hrd HRM
        obtain ⟨v0, v1, v2⟩ := cells_three V
        obtain ⟨p0, p1'⟩ := cells_two O
        have lv := (Array.getElem?_eq_some_iff.1 V).1
        have lo := (Array.getElem?_eq_some_iff.1 O).1
        go_wp2_with fail
        clear v0 v1 v2 p0 p1' lv lo
        have Z := heap_at w5 (.cells #[.int .i64 (sn : Int), .int .i64 (fi : Int)] 143)
        have bz := box_below w5 (.cells #[.int .i64 (sn : Int), .int .i64 (fi : Int)] 143)
        have z6 : (w5.alloc (.cells #[.int .i64 (sn : Int), .int .i64 (fi : Int)] 143)).heap.size = w5.heap.size + 1 := by simp
        replace B := below_step B bz
        replace Y := row_keep bz Y
        replace V := row_keep bz V
        replace O := row_keep bz O
        replace o1 := setsR.own_keep o1 (keeps_below bz)
        replace o2 := intsR.own_keep o2 (keeps_below bz)
        clear bz
        generalize w5.alloc (.cells #[.int .i64 (sn : Int), .int .i64 (fi : Int)] 143) = w6 at B Y V O Z o1 o2 z6 ⊢
        refine (implPutWay_any S1 _ _ c.1 sn fi row uw l st d ad cpw w6 o1 HG.out.1 HG.out.2.1 (by have := HG.out.2.2.1; omega) (by have := HG.out.2.2.2.1; omega) i1 i2 (HD.out _ B) hdl).mono ?_
        rintro e w7 ⟨rfl, M1, CH⟩
        have z7 := CH.size
        have nS : ∀ x, ¬ (w1.heap.size ≤ x ∧ x < w2.heap.size) → ¬ Old w6 S1 x := fun x hx h => hx ⟨(a1 x h.1).1, (a1 x h.1).2⟩
        replace O := (CH.block _ (by omega) (nS w2.heap.size (by omega))).trans O
        replace Z := (CH.block _ (by omega) (nS w5.heap.size (by omega))).trans Z
        replace Y := (CH.block _ (by omega) (nS (w.heap.size + 1 + 1) (by omega))).trans Y
        replace o2 := own_chg o2 CH (fun x h1 h2 => dd x h2.1 h1)
        replace B := CH.below B (fun x h => by have := (a1 x h.1).1; omega) (by omega)
        clear CH nS V o1
        obtain ⟨p0, p1'⟩ := cells_two O
        obtain ⟨q0, q1⟩ := cells_two Z
        go_wp2_with fail
        clear p0 p1' q0 q1
        obtain ⟨a9, c9, e9, hrd7⟩ := sets_rd M1
        simp only [Value.slice.injEq] at e9
        obtain ⟨rfl, -, rfl⟩ := e9
        have h0l : 0 < (c.1.set sn (row.set fi (l, st, d))).length := by rw [List.length_set]; exact HG.out.2.2.2.2.2.2.2
        obtain ⟨b0, o0, aj, cj, rfl, hcl, -, -, -⟩ := set_at hrd7 (List.getElem?_eq_getElem h0l)
        have hrl : ((c.1.set sn (row.set fi (l, st, d)))[0]).length = row.length := by
          have h9 := HG.out.2.2.2.2.2.1
          rw [List.getD_eq_getElem?_getD, List.getElem?_eq_getElem h0l] at h9
          exact h9
        rw [hrl] at hcl
        refine (implTouch_any S2 b0 o0 c.1.length cv _ c.2 sn fi row.length tr aj cj w7 HG.out.2.2.2.2.2.2.2 hcl o2 HG.out.2.2.2.2.1 (by unfold maxLen; omega) HTR.out HG.out.2.2.2.2.2.2.1).mono ?_
        rintro e w8 ⟨rfl, N2, g9, hg9, hg9l, CH⟩
        have z8 := CH.size
        have r9 := a2 g9 hg9
        have r91 := r9.1
        have r92 := r9.2
        have nS : ∀ x, ¬ (w1.heap.size ≤ x ∧ x < w2.heap.size) → ¬ (x = g9) := fun x hx h => hx (by rw [h]; exact ⟨r91, r92⟩)
        replace O := (CH.block _ (by omega) (nS w2.heap.size (by omega))).trans O
        replace Y := (CH.block _ (by omega) (nS (w.heap.size + 1 + 1) (by omega))).trans Y
        replace M1 := own_chg M1 CH (fun x h1 h2 => by
          have e : x = g9 := h2
          subst e
          rcases h1 with h1 | h1
          · exact dd _ h1.1 hg9
          · have := h1.1
            omega)
        replace B := CH.below B (fun x h => by have e : x = g9 := h; omega) (by omega)
        clear CH nS o2 hcl hrd7 Z
        obtain ⟨y0, y1⟩ := cells_two Y
        obtain ⟨f0, f1⟩ := cells_froz2 Y
        obtain ⟨p0, p1'⟩ := cells_two O
        have HK : Hid _ := And.intro M1 (And.intro N2 (And.intro Y B))
        have HA : Hid _ := And.intro a1 (And.intro a2 dd)
        clear M1 N2 O Y B a1 a2 dd
        go_wp2
        obtain ⟨o1, o2, Y, B⟩ := HK.out
        obtain ⟨a1, a2, dd⟩ := HA.out
        obtain ⟨r0, r1⟩ := cell_two (put2 (a := .slice (some ⟨b0, o0, none⟩) c.1.length cv) (b := .slice bv c.2.length dv) Y)
        refine bodyPost_ret (v := .tuple #[.agg #[.slice (some ⟨b0, o0, none⟩) c.1.length cv, .slice bv c.2.length dv], .bool true]) (by simp [results, Tryz.results162, go_sem, r0, r1]) rfl ⟨_, cv, bv, dv, rfl, ret_cache2 (w.heap.size + 1 + 1) (by omega) o1 o2 (fun k h => ?_) (fun k h => ?_) (fun k h ht => ?_) B⟩
        · rcases h with h | h
          · have := (a1 k h.1).1
            have := (a1 k h.1).2
            exact ⟨by omega, by omega⟩
          · exact ⟨by omega, by omega⟩
        · have := (a2 k h).1
          have := (a2 k h).2
          exact ⟨by omega, by omega⟩
        · rcases h with h | h
          · exact dd k h.1 ht
          · have := (a2 k ht).2
            omega

end Go.Proofs.YthbclkpmgcfdnaaGreatDoor
