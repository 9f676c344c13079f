/- The law FnStores returns true at every code of at most 4096 bytes, and nothing that was there turns. -/
import Derived.Test.YtnalbbfilejokaaDrawSto6
import Derived.Test.YtnalbbfilejokaaLikes6
namespace Go.Proofs.Ytnalbbfilejokaa
open Go.ChangeShapes Go.WideShapes Go.ChangeAt Go.RowKit
set_option linter.unusedVariables false

theorem newI_bk (a b : Int) : cacheM.bk (newI a b).1 ≤ 1000 := by
  cases hq : powB a && powB b
  · rw [new_no hq]; decide
  · simp at hq
    exact ok_bk (newI_ok hq.1 hq.2)
theorem newI_made {a b : Int} (h : (newI a b).2 = true) : OkC isL treeB (newI a b).1 := by
  cases hq : powB a && powB b
  · rw [new_no hq] at h; cases h
  · simp at hq
    exact newI_ok hq.1 hq.2
theorem st_false {c : CacheD} {u : WayD} (hok : OkC isL treeB c) (h : (fillI c u).2 = false) : (fillI c u).1 = c := by
  cases hf : fullB isL u
  · rw [fill_not hok hf]
  · cases hp : putNo c u.1 with
    | none => rw [fill_none hok hp]
    | some i => rw [fill_at hok hf hp] at h; cases h
theorem st_true {c : CacheD} {u : WayD} (hok : OkC isL treeB c) (h : (fillI c u).2 = true) : OkC isL treeB (fillI c u).1 ∧ (∃ i : Nat, findI (fillI c u).1 u.1 = (u, (i : Int))) ∧ ∀ l : Int, l ≠ u.1 → 0 ≤ l → (findI c l).1 = (findI (fillI c u).1 l).1 := by
  have ht : ∀ t n y : Int, treeB t n = true → 0 ≤ y → y < n → treeB (touI t n y) n = true := fun t n y h1 h2 h3 => tou_ok h1 h2 h3
  cases hf : fullB isL u
  · rw [fill_not hok hf] at h; cases h
  · cases hp : putNo c u.1 with
    | none => rw [fill_none hok hp] at h; cases h
    | some i =>
      rw [fill_at hok hf hp]
      exact ⟨(fill_ok ht hok hf hp).1, ⟨i, fill_found ht hok hf hp⟩, fun l h1 h0 => fill_other ht hok hf hp h1 h0⟩
theorem st_gone {d : CacheD} {l : Int} (h : (dropI d l).2 = true) : OkC isL treeB (dropI d l).1 ∧ (findI (dropI d l).1 l).2 = -1 := by
  cases hok : okB isL treeB d
  · rw [drop_bad hok] at h; cases h
  · have hokd := okB_iff.1 hok
    cases hat : atC d l with
    | none => rw [drop_none hokd hat] at h; cases h
    | some i =>
      obtain ⟨h1, h2, h3⟩ := drop_ok hokd hat
      have e : (dropI d l).1 = dropX d l i := by rw [drop_some hokd hat]; rfl
      rw [e]
      refine ⟨h1, ?_⟩
      unfold findI findC
      rw [okB_iff.2 h1, h2]
      rfl
theorem max_ok {c : CacheD} (h : SmallC c) : c.1.length ≤ maxLen ∧ c.2.length ≤ maxLen ∧ ∀ row ∈ c.1, row.length ≤ maxLen := by
  refine ⟨?_, ?_, fun row hr => ?_⟩
  · have := h.1; unfold maxLen; omega
  · have := h.2.1; unfold maxLen; omega
  · have := h.2.2 row hr; unfold maxLen; omega
theorem cache_reads {w : World} {S : Foot} {c : CacheD} {p r : Option Addr} {n1 n2 q s : Nat} (h : cacheR.own w S [.slice p n1 q, .slice r n2 s] c) (hn : n2 = c.2.length) : SlRd waysR w p c.1 ∧ SlRd intR w r c.2 := by
  subst hn
  obtain ⟨y1, y2, S1, S2, ey, t1, t2, -⟩ := cache_own h
  simp only [List.cons.injEq, and_true] at ey
  obtain ⟨rfl, rfl⟩ := ey
  exact ⟨sets_rd_at t1, ints_rd t2⟩
theorem way_reads {w : World} {S : Foot} {l s : Int} {d : List Int} {p : Option Addr} {q : Nat} (h : wayR.own w S [.int .i64 l, .int .i64 s, .slice p d.length q] (l, s, d)) : SlRd intR w p d := (way_parts (v := (l, s, d)) (wayR.own_rd h)).2.2
theorem ints_bk {d : List Int} (h : d.length ≤ 1000) : intsM.bk d ≤ 1152921504606846976 := by
  have h1 : intsM.bk d = d.length + sumbk intM d := rfl
  have h2 := sumbk_ints d
  omega
theorem two_cls {W : World} {g : Nat} {v0 v1 : Value} {t : TypeId} (R : W.heap[g]? = some (.cells #[v0, v1] t (0, 0))) :
    (∀ n : Cls (fun wx => Below W.heap.size W wx), n.w.cell? ⟨g, 0, none⟩ = some v0) ∧ (∀ n : Cls (fun wx => Below W.heap.size W wx), n.w.cell? ⟨g, 1, none⟩ = some v1) :=
  ⟨fun n => (cells_two (row_keep n.h R)).1, fun n => (cells_two (row_keep n.h R)).2⟩

set_option maxHeartbeats 16000000 in
set_option maxRecDepth 100000 in
theorem stores_law (a : Option Addr) (len cap : Nat) (zs : List Int) (w : World) (hr : Row8 w a len zs) (hs : len ≤ 4096) :
    Calls Try.prog 3 #[.slice a len cap] w fun e w' => e = .returned (.bool true) ∧ Below w.heap.size w w' := by
  have hbig : decide ((4096 : Int) < len) = false := by simp; omega
  have b0 := Below.refl w.heap.size w
  go_enter Try.func3, Try.ntmps3
  go_wp2_with fail
  refine (big_any _ _ _ _).mono ?_
  rintro e w0 ⟨rfl, hw⟩
  rw [hw]
  clear hw w0
  rw [hbig]
  clear hbig
  go_wp2_with fail
  refine (drawFilled_any _ _ _ zs _ hr).mono ?_
  rintro e u1w ⟨c, ac, cc, bc, dc, ⟨vl, vs, vd⟩, va, vc, rfl, hcs, iv1, iv2, hvd, RC, RCt, RV, bq⟩
  replace b0 := below_step b0 bq
  clear bq
  simp only at iv1 iv2 hvd RV
  obtain ⟨mc1, mc2, mc3⟩ := max_ok hcs
  generalize hX : fillI c (vl, vs, vd) = FX
  have hXb : cacheM.bk FX.1 ≤ 1000 := by rw [← hX]; exact fill_small _ _
  obtain ⟨X, isb⟩ := FX
  simp only at hXb
  have KFi : Hid (∀ W, SlRd waysR W ac c.1 → SlRd intR W bc c.2 → SlRd intR W va vd → Calls Try.prog 9 #[.agg #[.slice ac c.1.length cc, .slice bc c.2.length dc], .agg #[.int .i64 vl, .int .i64 vs, .slice va vd.length vc]] W fun e w' => ∃ p q r s, e = .returned (.tuple #[.agg #[.slice p X.1.length q, .slice r X.2.length s], .bool isb]) ∧ MadeR cacheR W w' [.slice p X.1.length q, .slice r X.2.length s] X) := fun W h1 h2 h3 => by have := implFilled_any ac bc c cc dc vl vs vd va vc W h1 h2 mc1 mc2 mc3 iv1 iv2 h3 (by omega); rw [hX] at this; exact this
  have KFs : Hid (∀ W, SlRd waysR W ac c.1 → SlRd intR W bc c.2 → SlRd intR W va vd → Calls Try.prog 16 #[.agg #[.slice ac c.1.length cc, .slice bc c.2.length dc], .agg #[.int .i64 vl, .int .i64 vs, .slice va vd.length vc]] W fun e w' => ∃ p q r s, e = .returned (.tuple #[.agg #[.slice p X.1.length q, .slice r X.2.length s], .bool isb]) ∧ MadeR cacheR W w' [.slice p X.1.length q, .slice r X.2.length s] X) := fun W h1 h2 h3 => by have := specFilled_any ac bc c cc dc vl vs vd va vc W h1 h2 mc1 mc2 mc3 iv1 iv2 h3 (by omega); rw [hX] at this; exact this
  have KOi : Hid (∀ W, SlRd waysR W ac c.1 → SlRd intR W bc c.2 → Calls Try.prog 18 #[.agg #[.slice ac c.1.length cc, .slice bc c.2.length dc]] W fun e w' => e = .returned (.bool (okB isL treeB c)) ∧ Below W.heap.size W w') := fun W h1 h2 => implCacheOk_any ac bc c cc dc W h1 h2 mc1 mc2 mc3
  have KOs : Hid (∀ W, SlRd waysR W ac c.1 → SlRd intR W bc c.2 → Calls Try.prog 19 #[.agg #[.slice ac c.1.length cc, .slice bc c.2.length dc]] W fun e w' => e = .returned (.bool (okB isL treeB c)) ∧ Below W.heap.size W w') := fun W h1 h2 => specCacheOk_any ac bc c cc dc W h1 h2 mc1 mc2 mc3
  have KCF : Hid (∀ (W : World) (l : Int), SlRd waysR W ac c.1 → SlRd intR W bc c.2 → Calls Try.prog 13 #[.agg #[.slice ac c.1.length cc, .slice bc c.2.length dc], .int .i64 l] W fun e w' => ∃ p q, e = .returned (.tuple #[.agg #[.int .i64 (findI c l).1.1, .int .i64 (findI c l).1.2.1, .slice p (findI c l).1.2.2.length q], .int .i64 (findI c l).2]) ∧ MadeR wayR W w' [.int .i64 (findI c l).1.1, .int .i64 (findI c l).1.2.1, .slice p (findI c l).1.2.2.length q] (findI c l).1) := fun W l h1 h2 => implFindW_any ac bc c cc dc l W h1 h2 mc1 mc2 mc3
  generalize hokc : okB isL treeB c = okc at KOi KOs
  have HF : Hid _ := And.intro hX hokc
  clear hX hokc mc1 mc2 mc3 hcs iv1 iv2
  go_upto_region 4 with fail
  have ZC := heap_at u1w (.cells #[.slice ac c.1.length cc, .slice bc c.2.length dc] 27)
  have bz := box_below u1w (.cells #[.slice ac c.1.length cc, .slice bc c.2.length dc] 27)
  replace b0 := below_step b0 bz
  replace RC := slrd_next RC bz
  replace RCt := slrd_next RCt bz
  replace RV := slrd_next RV bz
  clear bz
  have e6 : (u1w.alloc (.cells #[.slice ac c.1.length cc, .slice bc c.2.length dc] 27)).heap.size = u1w.heap.size + 1 := by simp
  generalize u1w.alloc (.cells #[.slice ac c.1.length cc, .slice bc c.2.length dc] 27) = u2w at b0 e6 ZC RC RCt RV ⊢
  have ZV := heap_at u2w (.cells #[.int .i64 vl, .int .i64 vs, .slice va vd.length vc] 29)
  have bz := box_below u2w (.cells #[.int .i64 vl, .int .i64 vs, .slice va vd.length vc] 29)
  replace b0 := below_step b0 bz
  replace ZC := row_keep bz ZC
  replace RC := slrd_next RC bz
  replace RCt := slrd_next RCt bz
  replace RV := slrd_next RV bz
  clear bz
  generalize u2w.alloc (.cells #[.int .i64 vl, .int .i64 vs, .slice va vd.length vc] 29) = u3w at b0 ZC ZV RC RCt RV ⊢
  rw [e6] at ZV
  clear e6
  obtain ⟨ZCc0, ZCc1⟩ := cells_two ZC
  have ZClt := ltR ZC
  obtain ⟨ZVc0, ZVc1, ZVc2⟩ := cells_three ZV
  have ZVlt := ltR ZV
  go_wp2_with fail
  clear ZCc0 ZCc1 ZClt ZVc0 ZVc1 ZVc2 ZVlt
  refine (KFi.out _ RC RCt RV).mono ?_
  rintro e u4w ⟨ax, cx, bx, dx, rfl, mm⟩
  have bq := mm.2
  replace b0 := below_step b0 bq
  replace ZC := row_keep bq ZC
  replace ZV := row_keep bq ZV
  replace RC := slrd_next RC bq
  replace RCt := slrd_next RCt bq
  replace RV := slrd_next RV bq
  obtain ⟨RX, RXt⟩ := cache_reads mm.1 rfl
  clear mm bq KFi
  go_upto_region 5 with fail
  have ZX := heap_at u4w (.cells #[.slice ax X.1.length cx, .slice bx X.2.length dx] 27)
  have bz := box_below u4w (.cells #[.slice ax X.1.length cx, .slice bx X.2.length dx] 27)
  replace b0 := below_step b0 bz
  replace ZC := row_keep bz ZC
  replace ZV := row_keep bz ZV
  replace RC := slrd_next RC bz
  replace RCt := slrd_next RCt bz
  replace RV := slrd_next RV bz
  replace RX := slrd_next RX bz
  replace RXt := slrd_next RXt bz
  clear bz
  generalize u4w.alloc (.cells #[.slice ax X.1.length cx, .slice bx X.2.length dx] 27) = u5w at b0 ZC ZV ZX RC RCt RV RX RXt ⊢
  obtain ⟨ZCc0, ZCc1⟩ := cells_two ZC
  have ZClt := ltR ZC
  go_wp2_with fail
  clear ZCc0 ZCc1 ZClt
  have hr1 := row8_below hr b0
  refine (drawDropped_any _ _ _ zs _ hr1).mono ?_
  rintro e u6w ⟨d, ad, cd, bd, dd, ln, rfl, hds, iln, hdf⟩
  obtain ⟨RD, RDt⟩ := hdf.1 u6w (fun _ _ _ => rfl)
  have bq := hdf.2
  clear hdf hr1
  replace b0 := below_step b0 bq
  replace ZC := row_keep bq ZC
  replace ZV := row_keep bq ZV
  replace ZX := row_keep bq ZX
  replace RC := slrd_next RC bq
  replace RCt := slrd_next RCt bq
  replace RV := slrd_next RV bq
  replace RX := slrd_next RX bq
  replace RXt := slrd_next RXt bq
  clear bq
  obtain ⟨md1, md2, md3⟩ := max_ok hds
  generalize hY : dropI d ln = FY
  have hYb : cacheM.bk FY.1 ≤ 1000 := by rw [← hY]; exact drop_small _ _
  obtain ⟨Y, gone⟩ := FY
  simp only at hYb
  have KDi : Hid (∀ W, SlRd waysR W ad d.1 → SlRd intR W bd d.2 → Calls Try.prog 11 #[.agg #[.slice ad d.1.length cd, .slice bd d.2.length dd], .int .i64 ln] W fun e w' => ∃ p q r s, e = .returned (.tuple #[.agg #[.slice p Y.1.length q, .slice r Y.2.length s], .bool gone]) ∧ MadeR cacheR W w' [.slice p Y.1.length q, .slice r Y.2.length s] Y) := fun W h1 h2 => by have := implDropped_any ad bd d cd dd ln W h1 h2 md1 md2 md3; rw [hY] at this; exact this
  have KDs : Hid (∀ W, SlRd waysR W ad d.1 → SlRd intR W bd d.2 → Calls Try.prog 20 #[.agg #[.slice ad d.1.length cd, .slice bd d.2.length dd], .int .i64 ln] W fun e w' => ∃ p q r s, e = .returned (.tuple #[.agg #[.slice p Y.1.length q, .slice r Y.2.length s], .bool gone]) ∧ MadeR cacheR W w' [.slice p Y.1.length q, .slice r Y.2.length s] Y) := fun W h1 h2 => by have := specDropped_any ad bd d cd dd ln W h1 h2 md1 md2 md3; rw [hY] at this; exact this
  have HY : Hid (dropI d ln = (Y, gone)) := hY
  clear hY md1 md2 md3 hds
  go_upto_region 6 with fail
  have ZD := heap_at u6w (.cells #[.slice ad d.1.length cd, .slice bd d.2.length dd] 27)
  have bz := box_below u6w (.cells #[.slice ad d.1.length cd, .slice bd d.2.length dd] 27)
  replace b0 := below_step b0 bz
  replace ZC := row_keep bz ZC
  replace ZV := row_keep bz ZV
  replace ZX := row_keep bz ZX
  replace RC := slrd_next RC bz
  replace RCt := slrd_next RCt bz
  replace RV := slrd_next RV bz
  replace RX := slrd_next RX bz
  replace RXt := slrd_next RXt bz
  replace RD := slrd_next RD bz
  replace RDt := slrd_next RDt bz
  clear bz
  generalize u6w.alloc (.cells #[.slice ad d.1.length cd, .slice bd d.2.length dd] 27) = u7w at b0 ZC ZV ZX ZD RC RCt RV RX RXt RD RDt ⊢
  obtain ⟨ZDc0, ZDc1⟩ := cells_two ZD
  have ZDlt := ltR ZD
  go_wp2_with fail
  clear ZDc0 ZDc1 ZDlt
  refine (KDi.out _ RD RDt).mono ?_
  rintro e u8w ⟨ay, cy, by_, dy, rfl, mm⟩
  have bq := mm.2
  replace b0 := below_step b0 bq
  replace ZC := row_keep bq ZC
  replace ZV := row_keep bq ZV
  replace ZX := row_keep bq ZX
  replace ZD := row_keep bq ZD
  replace RC := slrd_next RC bq
  replace RCt := slrd_next RCt bq
  replace RV := slrd_next RV bq
  replace RX := slrd_next RX bq
  replace RXt := slrd_next RXt bq
  replace RD := slrd_next RD bq
  replace RDt := slrd_next RDt bq
  obtain ⟨RY, RYt⟩ := cache_reads mm.1 rfl
  clear mm bq KDi
  go_upto_region 7 with fail
  have ZY := heap_at u8w (.cells #[.slice ay Y.1.length cy, .slice by_ Y.2.length dy] 27)
  have bz := box_below u8w (.cells #[.slice ay Y.1.length cy, .slice by_ Y.2.length dy] 27)
  replace b0 := below_step b0 bz
  replace ZC := row_keep bz ZC
  replace ZV := row_keep bz ZV
  replace ZX := row_keep bz ZX
  replace ZD := row_keep bz ZD
  replace RC := slrd_next RC bz
  replace RCt := slrd_next RCt bz
  replace RV := slrd_next RV bz
  replace RX := slrd_next RX bz
  replace RXt := slrd_next RXt bz
  replace RD := slrd_next RD bz
  replace RDt := slrd_next RDt bz
  replace RY := slrd_next RY bz
  replace RYt := slrd_next RYt bz
  clear bz
  generalize u8w.alloc (.cells #[.slice ay Y.1.length cy, .slice by_ Y.2.length dy] 27) = u9w at b0 ZC ZV ZX ZD ZY RC RCt RV RX RXt RD RDt RY RYt ⊢
  obtain ⟨ZCc0, ZCc1⟩ := cells_two ZC
  have ZClt := ltR ZC
  go_wp2_with fail
  clear ZCc0 ZCc1 ZClt
  have hr1 := row8_below hr b0
  refine (drawFind_any _ _ _ zs _ hr1).mono ?_
  rintro e u10w ⟨q, aq, cq, bq1, dq, att, rfl, hqs, iat, hdf⟩
  obtain ⟨RQ, RQt⟩ := hdf.1 u10w (fun _ _ _ => rfl)
  have bq := hdf.2
  clear hdf hr1
  replace b0 := below_step b0 bq
  replace ZC := row_keep bq ZC
  replace ZV := row_keep bq ZV
  replace ZX := row_keep bq ZX
  replace ZD := row_keep bq ZD
  replace ZY := row_keep bq ZY
  replace RC := slrd_next RC bq
  replace RCt := slrd_next RCt bq
  replace RV := slrd_next RV bq
  replace RX := slrd_next RX bq
  replace RXt := slrd_next RXt bq
  replace RD := slrd_next RD bq
  replace RDt := slrd_next RDt bq
  replace RY := slrd_next RY bq
  replace RYt := slrd_next RYt bq
  clear bq
  obtain ⟨mq1, mq2, mq3⟩ := max_ok hqs
  have hfl := find_len q att
  generalize hF : findI q att = FI at hfl
  obtain ⟨⟨fl, fs, fd⟩, fk⟩ := FI
  simp only at hfl
  have KQi : Hid (∀ W, SlRd waysR W aq q.1 → SlRd intR W bq1 q.2 → Calls Try.prog 13 #[.agg #[.slice aq q.1.length cq, .slice bq1 q.2.length dq], .int .i64 att] W fun e w' => ∃ p r, e = .returned (.tuple #[.agg #[.int .i64 fl, .int .i64 fs, .slice p fd.length r], .int .i64 fk]) ∧ MadeR wayR W w' [.int .i64 fl, .int .i64 fs, .slice p fd.length r] (fl, fs, fd)) := fun W h1 h2 => by have := implFindW_any aq bq1 q cq dq att W h1 h2 mq1 mq2 mq3; rw [hF] at this; exact this
  have KQs : Hid (∀ W, SlRd waysR W aq q.1 → SlRd intR W bq1 q.2 → Calls Try.prog 21 #[.agg #[.slice aq q.1.length cq, .slice bq1 q.2.length dq], .int .i64 att] W fun e w' => ∃ p r, e = .returned (.tuple #[.agg #[.int .i64 fl, .int .i64 fs, .slice p fd.length r], .int .i64 fk]) ∧ MadeR wayR W w' [.int .i64 fl, .int .i64 fs, .slice p fd.length r] (fl, fs, fd)) := fun W h1 h2 => by have := specFindW_any aq bq1 q cq dq att W h1 h2 mq1 mq2 mq3; rw [hF] at this; exact this
  clear hF mq1 mq2 mq3 hqs
  go_upto_region 8 with fail
  have ZQ := heap_at u10w (.cells #[.slice aq q.1.length cq, .slice bq1 q.2.length dq] 27)
  have bz := box_below u10w (.cells #[.slice aq q.1.length cq, .slice bq1 q.2.length dq] 27)
  replace b0 := below_step b0 bz
  replace ZC := row_keep bz ZC
  replace ZV := row_keep bz ZV
  replace ZX := row_keep bz ZX
  replace ZD := row_keep bz ZD
  replace ZY := row_keep bz ZY
  replace RC := slrd_next RC bz
  replace RCt := slrd_next RCt bz
  replace RV := slrd_next RV bz
  replace RX := slrd_next RX bz
  replace RXt := slrd_next RXt bz
  replace RD := slrd_next RD bz
  replace RDt := slrd_next RDt bz
  replace RY := slrd_next RY bz
  replace RYt := slrd_next RYt bz
  replace RQ := slrd_next RQ bz
  replace RQt := slrd_next RQt bz
  clear bz
  generalize u10w.alloc (.cells #[.slice aq q.1.length cq, .slice bq1 q.2.length dq] 27) = u11w at b0 ZC ZV ZX ZD ZY ZQ RC RCt RV RX RXt RD RDt RY RYt RQ RQt ⊢
  obtain ⟨ZQc0, ZQc1⟩ := cells_two ZQ
  have ZQlt := ltR ZQ
  go_wp2_with fail
  clear ZQc0 ZQc1 ZQlt
  refine (KQi.out _ RQ RQt).mono ?_
  rintro e u12w ⟨af, cf, rfl, mm⟩
  have bq := mm.2
  replace b0 := below_step b0 bq
  replace ZC := row_keep bq ZC
  replace ZV := row_keep bq ZV
  replace ZX := row_keep bq ZX
  replace ZD := row_keep bq ZD
  replace ZY := row_keep bq ZY
  replace ZQ := row_keep bq ZQ
  replace RC := slrd_next RC bq
  replace RCt := slrd_next RCt bq
  replace RV := slrd_next RV bq
  replace RX := slrd_next RX bq
  replace RXt := slrd_next RXt bq
  replace RD := slrd_next RD bq
  replace RDt := slrd_next RDt bq
  replace RY := slrd_next RY bq
  replace RYt := slrd_next RYt bq
  replace RQ := slrd_next RQ bq
  replace RQt := slrd_next RQt bq
  have RF := way_reads mm.1
  clear mm bq KQi
  go_upto_region 9 with fail
  have ZF := heap_at u12w (.cells #[.int .i64 fl, .int .i64 fs, .slice af fd.length cf] 29)
  have bz := box_below u12w (.cells #[.int .i64 fl, .int .i64 fs, .slice af fd.length cf] 29)
  replace b0 := below_step b0 bz
  replace ZC := row_keep bz ZC
  replace ZV := row_keep bz ZV
  replace ZX := row_keep bz ZX
  replace ZD := row_keep bz ZD
  replace ZY := row_keep bz ZY
  replace ZQ := row_keep bz ZQ
  replace RC := slrd_next RC bz
  replace RCt := slrd_next RCt bz
  replace RV := slrd_next RV bz
  replace RX := slrd_next RX bz
  replace RXt := slrd_next RXt bz
  replace RD := slrd_next RD bz
  replace RDt := slrd_next RDt bz
  replace RY := slrd_next RY bz
  replace RYt := slrd_next RYt bz
  replace RQ := slrd_next RQ bz
  replace RQt := slrd_next RQt bz
  replace RF := slrd_next RF bz
  clear bz
  generalize u12w.alloc (.cells #[.int .i64 fl, .int .i64 fs, .slice af fd.length cf] 29) = u13w at b0 ZC ZV ZX ZD ZY ZQ ZF RC RCt RV RX RXt RD RDt RY RYt RQ RQt RF ⊢
  obtain ⟨ZCc0, ZCc1⟩ := cells_two ZC
  have ZClt := ltR ZC
  go_wp2_with fail
  clear ZCc0 ZCc1 ZClt
  have hr1 := row8_below hr b0
  refine (drawNewCache_any _ _ _ zs _ hr1).mono ?_
  rintro e u14w ⟨na, nb, rfl, bq⟩
  clear hr1 hr
  replace b0 := below_step b0 bq
  replace ZC := row_keep bq ZC
  replace ZV := row_keep bq ZV
  replace ZX := row_keep bq ZX
  replace ZD := row_keep bq ZD
  replace ZY := row_keep bq ZY
  replace ZQ := row_keep bq ZQ
  replace ZF := row_keep bq ZF
  replace RC := slrd_next RC bq
  replace RCt := slrd_next RCt bq
  replace RV := slrd_next RV bq
  replace RX := slrd_next RX bq
  replace RXt := slrd_next RXt bq
  replace RD := slrd_next RD bq
  replace RDt := slrd_next RDt bq
  replace RY := slrd_next RY bq
  replace RYt := slrd_next RYt bq
  replace RQ := slrd_next RQ bq
  replace RQt := slrd_next RQt bq
  replace RF := slrd_next RF bq
  clear bq
  have hNb := newI_bk na nb
  have hNm : (newI na nb).2 = true → OkC isL treeB (newI na nb).1 := newI_made
  have KNi : Hid (∀ W, _) := fun W => implNew_any na nb W
  have KNs : Hid (∀ W, _) := fun W => specNew_any na nb W
  generalize newI na nb = NN at hNb hNm KNi KNs
  obtain ⟨N, made⟩ := NN
  simp only at hNb hNm KNi KNs
  have HN : Hid _ := hNm
  clear hNm
  obtain ⟨ZCc0, ZCc1⟩ := cells_two ZC
  have ZClt := ltR ZC
  go_wp2_with fail
  clear ZCc0 ZCc1 ZClt
  refine (KNi.out _).mono ?_
  rintro e u15w ⟨an, cn, bn, dn, rfl, mm⟩
  have bq := mm.2
  replace b0 := below_step b0 bq
  replace ZC := row_keep bq ZC
  replace ZV := row_keep bq ZV
  replace ZX := row_keep bq ZX
  replace ZD := row_keep bq ZD
  replace ZY := row_keep bq ZY
  replace ZQ := row_keep bq ZQ
  replace ZF := row_keep bq ZF
  replace RC := slrd_next RC bq
  replace RCt := slrd_next RCt bq
  replace RV := slrd_next RV bq
  replace RX := slrd_next RX bq
  replace RXt := slrd_next RXt bq
  replace RD := slrd_next RD bq
  replace RDt := slrd_next RDt bq
  replace RY := slrd_next RY bq
  replace RYt := slrd_next RYt bq
  replace RQ := slrd_next RQ bq
  replace RQt := slrd_next RQt bq
  replace RF := slrd_next RF bq
  obtain ⟨RN, RNt⟩ := cache_reads mm.1 rfl
  clear mm bq KNi
  go_upto_region 11 with fail
  have ZN := heap_at u15w (.cells #[.slice an N.1.length cn, .slice bn N.2.length dn] 27)
  have bz := box_below u15w (.cells #[.slice an N.1.length cn, .slice bn N.2.length dn] 27)
  replace b0 := below_step b0 bz
  replace ZC := row_keep bz ZC
  replace ZV := row_keep bz ZV
  replace ZX := row_keep bz ZX
  replace ZD := row_keep bz ZD
  replace ZY := row_keep bz ZY
  replace ZQ := row_keep bz ZQ
  replace ZF := row_keep bz ZF
  replace RC := slrd_next RC bz
  replace RCt := slrd_next RCt bz
  replace RV := slrd_next RV bz
  replace RX := slrd_next RX bz
  replace RXt := slrd_next RXt bz
  replace RD := slrd_next RD bz
  replace RDt := slrd_next RDt bz
  replace RY := slrd_next RY bz
  replace RYt := slrd_next RYt bz
  replace RQ := slrd_next RQ bz
  replace RQt := slrd_next RQt bz
  replace RF := slrd_next RF bz
  replace RN := slrd_next RN bz
  replace RNt := slrd_next RNt bz
  clear bz
  generalize u15w.alloc (.cells #[.slice an N.1.length cn, .slice bn N.2.length dn] 27) = u16w at b0 ZC ZV ZX ZD ZY ZQ ZF ZN RC RCt RV RX RXt RD RDt RY RYt RQ RQt RF RN RNt ⊢
  obtain ⟨ZCc0, ZCc1⟩ := cells_two ZC
  have ZClt := ltR ZC
  obtain ⟨ZVc0, ZVc1, ZVc2⟩ := cells_three ZV
  have ZVlt := ltR ZV
  go_wp2_with fail
  clear ZCc0 ZCc1 ZClt ZVc0 ZVc1 ZVc2 ZVlt
  refine (KFs.out _ RC RCt RV).mono ?_
  rintro e u17w ⟨az, cz, bz1, dz, rfl, mm⟩
  have bq := mm.2
  replace b0 := below_step b0 bq
  replace ZC := row_keep bq ZC
  replace ZV := row_keep bq ZV
  replace ZX := row_keep bq ZX
  replace ZD := row_keep bq ZD
  replace ZY := row_keep bq ZY
  replace ZQ := row_keep bq ZQ
  replace ZF := row_keep bq ZF
  replace ZN := row_keep bq ZN
  replace RC := slrd_next RC bq
  replace RCt := slrd_next RCt bq
  replace RV := slrd_next RV bq
  replace RX := slrd_next RX bq
  replace RXt := slrd_next RXt bq
  replace RD := slrd_next RD bq
  replace RDt := slrd_next RDt bq
  replace RY := slrd_next RY bq
  replace RYt := slrd_next RYt bq
  replace RQ := slrd_next RQ bq
  replace RQt := slrd_next RQt bq
  replace RF := slrd_next RF bq
  replace RN := slrd_next RN bq
  replace RNt := slrd_next RNt bq
  obtain ⟨RZ, RZt⟩ := cache_reads mm.1 rfl
  clear mm bq KFs
  go_upto_region 12 with fail
  have ZZ := heap_at u17w (.cells #[.slice az X.1.length cz, .slice bz1 X.2.length dz] 27)
  have bz := box_below u17w (.cells #[.slice az X.1.length cz, .slice bz1 X.2.length dz] 27)
  replace b0 := below_step b0 bz
  replace ZC := row_keep bz ZC
  replace ZV := row_keep bz ZV
  replace ZX := row_keep bz ZX
  replace ZD := row_keep bz ZD
  replace ZY := row_keep bz ZY
  replace ZQ := row_keep bz ZQ
  replace ZF := row_keep bz ZF
  replace ZN := row_keep bz ZN
  replace RC := slrd_next RC bz
  replace RCt := slrd_next RCt bz
  replace RV := slrd_next RV bz
  replace RX := slrd_next RX bz
  replace RXt := slrd_next RXt bz
  replace RD := slrd_next RD bz
  replace RDt := slrd_next RDt bz
  replace RY := slrd_next RY bz
  replace RYt := slrd_next RYt bz
  replace RQ := slrd_next RQ bz
  replace RQt := slrd_next RQt bz
  replace RF := slrd_next RF bz
  replace RN := slrd_next RN bz
  replace RNt := slrd_next RNt bz
  replace RZ := slrd_next RZ bz
  replace RZt := slrd_next RZt bz
  clear bz
  generalize u17w.alloc (.cells #[.slice az X.1.length cz, .slice bz1 X.2.length dz] 27) = u18w at b0 ZC ZV ZX ZD ZY ZQ ZF ZN ZZ RC RCt RV RX RXt RD RDt RY RYt RQ RQt RF RN RNt RZ RZt ⊢
  go_cut [103] from 88 to 103 (fun t wx => t = .bool false ∧ Below u18w.heap.size u18w wx)
  case first =>
    obtain ⟨ZXc0, ZXc1⟩ := cells_two ZX
    have ZXlt := ltR ZX
    obtain ⟨ZZc0, ZZc1⟩ := cells_two ZZ
    have ZZlt := ltR ZZ
    obtain ⟨ZCc0, ZCc1⟩ := cells_two ZC
    have ZClt := ltR ZC
    obtain ⟨ZXn0, ZXn1⟩ := two_cls (W := u18w) ZX
    obtain ⟨ZZn0, ZZn1⟩ := two_cls (W := u18w) ZZ
    obtain ⟨ZCn0, ZCn1⟩ := two_cls (W := u18w) ZC
    clear ZXc0 ZXc1 ZXlt ZZc0 ZZc1 ZZlt ZCc0 ZCc1 ZClt
    have J1 : Hid (∀ n : Cls (fun wx => Below u18w.heap.size u18w wx), Calls Try.prog 17 #[.agg #[.slice ax X.1.length cx, .slice bx X.2.length dx], .agg #[.slice az X.1.length cz, .slice bz1 X.2.length dz]] n.w fun e w' => e = .returned (.bool true) ∧ Below n.w.heap.size n.w w') := fun n => likeCache_rep X ax bx az bz1 cx dx cz dz n.w (slrd_next RX n.h) (slrd_next RXt n.h) (slrd_next RZ n.h) (slrd_next RZt n.h) (Nat.le_trans hXb (by decide))
    have J2 : Hid (∀ n : Cls (fun wx => Below u18w.heap.size u18w wx), Calls Try.prog 18 #[.agg #[.slice ac c.1.length cc, .slice bc c.2.length dc]] n.w fun e w' => e = .returned (.bool okc) ∧ Below n.w.heap.size n.w w') := fun n => KOi.out n.w (slrd_next RC n.h) (slrd_next RCt n.h)
    have J3 : Hid (∀ n : Cls (fun wx => Below u18w.heap.size u18w wx), Calls Try.prog 19 #[.agg #[.slice ac c.1.length cc, .slice bc c.2.length dc]] n.w fun e w' => e = .returned (.bool okc) ∧ Below n.w.heap.size n.w w') := fun n => KOs.out n.w (slrd_next RC n.h) (slrd_next RCt n.h)
    clear b0 ZC ZV ZX ZD ZY ZQ ZF ZN ZZ RC RCt RV RX RXt RD RDt RY RYt RQ RQt RF RN RNt RZ RZt
    go_wp2
    refine region_class (fun wx => Below u18w.heap.size u18w wx) (by kernel_rfl) (by kernel_rfl) ((Below.refl _ u18w).drew) ?_
    intro hne
    repeat (quiet_step (first | (go_at_call 17; exact calls_class (J1.out _) (fun w' hc bb => below_step hc bb)) | (go_at_call 18; exact calls_class (J2.out _) (fun w' hc bb => below_step hc bb)) | (go_at_call 19; exact calls_class (J3.out _) (fun w' hc bb => below_step hc bb))))
    refine wpQuiet_nil ?_
    intro wz b2
    clear hne J1 J2 J3 ZXn0 ZXn1 ZZn0 ZZn1 ZCn0 ZCn1
    go_wp2_with fail
    go_meet
    exact ⟨rfl, b2⟩
  case rest =>
    obtain ⟨rfl, bq⟩ := hcut
    obtain ⟨u19w, hwn⟩ : ∃ x, x = wc := ⟨_, rfl⟩
    subst hwn
    replace b0 := below_step b0 bq
    replace ZC := row_keep bq ZC
    replace ZV := row_keep bq ZV
    replace ZX := row_keep bq ZX
    replace ZD := row_keep bq ZD
    replace ZY := row_keep bq ZY
    replace ZQ := row_keep bq ZQ
    replace ZF := row_keep bq ZF
    replace ZN := row_keep bq ZN
    replace ZZ := row_keep bq ZZ
    replace RC := slrd_next RC bq
    replace RCt := slrd_next RCt bq
    replace RV := slrd_next RV bq
    replace RX := slrd_next RX bq
    replace RXt := slrd_next RXt bq
    replace RD := slrd_next RD bq
    replace RDt := slrd_next RDt bq
    replace RY := slrd_next RY bq
    replace RYt := slrd_next RYt bq
    replace RQ := slrd_next RQ bq
    replace RQt := slrd_next RQt bq
    replace RF := slrd_next RF bq
    replace RN := slrd_next RN bq
    replace RNt := slrd_next RNt bq
    replace RZ := slrd_next RZ bq
    replace RZt := slrd_next RZt bq
    clear bq
    clear ZZ RZ RZt
    clear KOi
    obtain ⟨ZDc0, ZDc1⟩ := cells_two ZD
    have ZDlt := ltR ZD
    go_wp2_with fail
    clear ZDc0 ZDc1 ZDlt
    refine (KDs.out _ RD RDt).mono ?_
    rintro e u20w ⟨az, cz, bz1, dz, rfl, mm⟩
    have bq := mm.2
    replace b0 := below_step b0 bq
    replace ZC := row_keep bq ZC
    replace ZV := row_keep bq ZV
    replace ZX := row_keep bq ZX
    replace ZD := row_keep bq ZD
    replace ZY := row_keep bq ZY
    replace ZQ := row_keep bq ZQ
    replace ZF := row_keep bq ZF
    replace ZN := row_keep bq ZN
    replace RC := slrd_next RC bq
    replace RCt := slrd_next RCt bq
    replace RV := slrd_next RV bq
    replace RX := slrd_next RX bq
    replace RXt := slrd_next RXt bq
    replace RD := slrd_next RD bq
    replace RDt := slrd_next RDt bq
    replace RY := slrd_next RY bq
    replace RYt := slrd_next RYt bq
    replace RQ := slrd_next RQ bq
    replace RQt := slrd_next RQt bq
    replace RF := slrd_next RF bq
    replace RN := slrd_next RN bq
    replace RNt := slrd_next RNt bq
    obtain ⟨RZ, RZt⟩ := cache_reads mm.1 rfl
    clear mm bq KDs
    clear ZD RD RDt
    go_upto_region 15 with fail
    have ZZ := heap_at u20w (.cells #[.slice az Y.1.length cz, .slice bz1 Y.2.length dz] 27)
    have bz := box_below u20w (.cells #[.slice az Y.1.length cz, .slice bz1 Y.2.length dz] 27)
    replace b0 := below_step b0 bz
    replace ZC := row_keep bz ZC
    replace ZV := row_keep bz ZV
    replace ZX := row_keep bz ZX
    replace ZY := row_keep bz ZY
    replace ZQ := row_keep bz ZQ
    replace ZF := row_keep bz ZF
    replace ZN := row_keep bz ZN
    replace RC := slrd_next RC bz
    replace RCt := slrd_next RCt bz
    replace RV := slrd_next RV bz
    replace RX := slrd_next RX bz
    replace RXt := slrd_next RXt bz
    replace RY := slrd_next RY bz
    replace RYt := slrd_next RYt bz
    replace RQ := slrd_next RQ bz
    replace RQt := slrd_next RQt bz
    replace RF := slrd_next RF bz
    replace RN := slrd_next RN bz
    replace RNt := slrd_next RNt bz
    replace RZ := slrd_next RZ bz
    replace RZt := slrd_next RZt bz
    clear bz
    generalize u20w.alloc (.cells #[.slice az Y.1.length cz, .slice bz1 Y.2.length dz] 27) = u21w at b0 ZC ZV ZX ZY ZQ ZF ZN ZZ RC RCt RV RX RXt RY RYt RQ RQt RF RN RNt RZ RZt ⊢
    obtain ⟨ZYc0, ZYc1⟩ := cells_two ZY
    have ZYlt := ltR ZY
    obtain ⟨ZZc0, ZZc1⟩ := cells_two ZZ
    have ZZlt := ltR ZZ
    go_wp2_with fail
    clear ZYc0 ZYc1 ZYlt ZZc0 ZZc1 ZZlt
    refine (likeCache_rep Y ay by_ az bz1 cy dy cz dz _ RY RYt RZ RZt (Nat.le_trans hYb (by decide))).mono ?_
    rintro e u22w ⟨rfl, bq⟩
    replace b0 := below_step b0 bq
    replace ZC := row_keep bq ZC
    replace ZV := row_keep bq ZV
    replace ZX := row_keep bq ZX
    replace ZY := row_keep bq ZY
    replace ZQ := row_keep bq ZQ
    replace ZF := row_keep bq ZF
    replace ZN := row_keep bq ZN
    replace ZZ := row_keep bq ZZ
    replace RC := slrd_next RC bq
    replace RCt := slrd_next RCt bq
    replace RV := slrd_next RV bq
    replace RX := slrd_next RX bq
    replace RXt := slrd_next RXt bq
    replace RY := slrd_next RY bq
    replace RYt := slrd_next RYt bq
    replace RQ := slrd_next RQ bq
    replace RQt := slrd_next RQt bq
    replace RF := slrd_next RF bq
    replace RN := slrd_next RN bq
    replace RNt := slrd_next RNt bq
    replace RZ := slrd_next RZ bq
    replace RZt := slrd_next RZt bq
    clear bq
    clear ZZ RZ RZt
    obtain ⟨ZQc0, ZQc1⟩ := cells_two ZQ
    have ZQlt := ltR ZQ
    go_wp2_with fail
    clear ZQc0 ZQc1 ZQlt
    refine (KQs.out _ RQ RQt).mono ?_
    rintro e u23w ⟨az, cz, rfl, mm⟩
    have bq := mm.2
    replace b0 := below_step b0 bq
    replace ZC := row_keep bq ZC
    replace ZV := row_keep bq ZV
    replace ZX := row_keep bq ZX
    replace ZY := row_keep bq ZY
    replace ZQ := row_keep bq ZQ
    replace ZF := row_keep bq ZF
    replace ZN := row_keep bq ZN
    replace RC := slrd_next RC bq
    replace RCt := slrd_next RCt bq
    replace RV := slrd_next RV bq
    replace RX := slrd_next RX bq
    replace RXt := slrd_next RXt bq
    replace RY := slrd_next RY bq
    replace RYt := slrd_next RYt bq
    replace RQ := slrd_next RQ bq
    replace RQt := slrd_next RQt bq
    replace RF := slrd_next RF bq
    replace RN := slrd_next RN bq
    replace RNt := slrd_next RNt bq
    have RZ := way_reads mm.1
    clear mm bq KQs
    clear ZQ RQ RQt
    go_upto_region 18 with fail
    have ZZ := heap_at u23w (.cells #[.int .i64 fl, .int .i64 fs, .slice az fd.length cz] 29)
    have bz := box_below u23w (.cells #[.int .i64 fl, .int .i64 fs, .slice az fd.length cz] 29)
    replace b0 := below_step b0 bz
    replace ZC := row_keep bz ZC
    replace ZV := row_keep bz ZV
    replace ZX := row_keep bz ZX
    replace ZY := row_keep bz ZY
    replace ZF := row_keep bz ZF
    replace ZN := row_keep bz ZN
    replace RC := slrd_next RC bz
    replace RCt := slrd_next RCt bz
    replace RV := slrd_next RV bz
    replace RX := slrd_next RX bz
    replace RXt := slrd_next RXt bz
    replace RY := slrd_next RY bz
    replace RYt := slrd_next RYt bz
    replace RF := slrd_next RF bz
    replace RN := slrd_next RN bz
    replace RNt := slrd_next RNt bz
    replace RZ := slrd_next RZ bz
    clear bz
    generalize u23w.alloc (.cells #[.int .i64 fl, .int .i64 fs, .slice az fd.length cz] 29) = u24w at b0 ZC ZV ZX ZY ZF ZN ZZ RC RCt RV RX RXt RY RYt RF RN RNt RZ ⊢
    obtain ⟨ZFc0, ZFc1, ZFc2⟩ := cells_three ZF
    have ZFlt := ltR ZF
    obtain ⟨ZZc0, ZZc1, ZZc2⟩ := cells_three ZZ
    have ZZlt := ltR ZZ
    go_wp2_with fail
    clear ZFc0 ZFc1 ZFc2 ZFlt ZZc0 ZZc1 ZZc2 ZZlt
    refine (likeWay_rep fl fs fd af az cf cz _ RF RZ (ints_bk (by omega))).mono ?_
    rintro e u25w ⟨rfl, bq⟩
    replace b0 := below_step b0 bq
    replace ZC := row_keep bq ZC
    replace ZV := row_keep bq ZV
    replace ZX := row_keep bq ZX
    replace ZY := row_keep bq ZY
    replace ZF := row_keep bq ZF
    replace ZN := row_keep bq ZN
    replace ZZ := row_keep bq ZZ
    replace RC := slrd_next RC bq
    replace RCt := slrd_next RCt bq
    replace RV := slrd_next RV bq
    replace RX := slrd_next RX bq
    replace RXt := slrd_next RXt bq
    replace RY := slrd_next RY bq
    replace RYt := slrd_next RYt bq
    replace RF := slrd_next RF bq
    replace RN := slrd_next RN bq
    replace RNt := slrd_next RNt bq
    replace RZ := slrd_next RZ bq
    clear bq
    clear ZZ RZ ZF RF
    obtain ⟨ZCc0, ZCc1⟩ := cells_two ZC
    have ZClt := ltR ZC
    go_wp2_with fail
    clear ZCc0 ZCc1 ZClt
    refine (KNs.out _).mono ?_
    rintro e u26w ⟨az, cz, bz1, dz, rfl, mm⟩
    have bq := mm.2
    replace b0 := below_step b0 bq
    replace ZC := row_keep bq ZC
    replace ZV := row_keep bq ZV
    replace ZX := row_keep bq ZX
    replace ZY := row_keep bq ZY
    replace ZN := row_keep bq ZN
    replace RC := slrd_next RC bq
    replace RCt := slrd_next RCt bq
    replace RV := slrd_next RV bq
    replace RX := slrd_next RX bq
    replace RXt := slrd_next RXt bq
    replace RY := slrd_next RY bq
    replace RYt := slrd_next RYt bq
    replace RN := slrd_next RN bq
    replace RNt := slrd_next RNt bq
    obtain ⟨RZ, RZt⟩ := cache_reads mm.1 rfl
    clear mm bq KNs
    go_upto_region 21 with fail
    have ZZ := heap_at u26w (.cells #[.slice az N.1.length cz, .slice bz1 N.2.length dz] 27)
    have bz := box_below u26w (.cells #[.slice az N.1.length cz, .slice bz1 N.2.length dz] 27)
    replace b0 := below_step b0 bz
    replace ZC := row_keep bz ZC
    replace ZV := row_keep bz ZV
    replace ZX := row_keep bz ZX
    replace ZY := row_keep bz ZY
    replace ZN := row_keep bz ZN
    replace RC := slrd_next RC bz
    replace RCt := slrd_next RCt bz
    replace RV := slrd_next RV bz
    replace RX := slrd_next RX bz
    replace RXt := slrd_next RXt bz
    replace RY := slrd_next RY bz
    replace RYt := slrd_next RYt bz
    replace RN := slrd_next RN bz
    replace RNt := slrd_next RNt bz
    replace RZ := slrd_next RZ bz
    replace RZt := slrd_next RZt bz
    clear bz
    generalize u26w.alloc (.cells #[.slice az N.1.length cz, .slice bz1 N.2.length dz] 27) = u27w at b0 ZC ZV ZX ZY ZN ZZ RC RCt RV RX RXt RY RYt RN RNt RZ RZt ⊢
    go_cut [156] from 140 to 156 (fun t wx => t = .bool false ∧ Below u27w.heap.size u27w wx)
    case first =>
      have b9 := Below.refl u27w.heap.size u27w
      clear b0
      have b0 := b9
      clear b9
      clear ZC ZV ZX ZY RC RCt RV RX RXt RY RYt
      cases made
      · skip
        obtain ⟨ZNc0, ZNc1⟩ := cells_two ZN
        have ZNlt := ltR ZN
        obtain ⟨ZZc0, ZZc1⟩ := cells_two ZZ
        have ZZlt := ltR ZZ
        go_wp2_with fail
        clear ZNc0 ZNc1 ZNlt ZZc0 ZZc1 ZZlt
        refine (likeCache_rep N an bn az bz1 cn dn cz dz _ RN RNt RZ RZt (Nat.le_trans hNb (by decide))).mono ?_
        rintro e u28w ⟨rfl, bq⟩
        replace b0 := below_step b0 bq
        replace ZN := row_keep bq ZN
        replace ZZ := row_keep bq ZZ
        replace RN := slrd_next RN bq
        replace RNt := slrd_next RNt bq
        replace RZ := slrd_next RZ bq
        replace RZt := slrd_next RZt bq
        clear ZN ZZ RN RNt RZ RZt
        go_wp2_with fail
        go_meet
        exact ⟨rfl, b0⟩
      · skip
        have hNok := HN.out rfl
        obtain ⟨mn1, mn2, mn3⟩ := max_ok (small_ok hNok)
        have KN : Hid (∀ W, SlRd waysR W an N.1 → SlRd intR W bn N.2 → Calls Try.prog 18 #[.agg #[.slice an N.1.length cn, .slice bn N.2.length dn]] W fun e w' => e = .returned (.bool true) ∧ Below W.heap.size W w') := fun W h1 h2 => by have := implCacheOk_any an bn N cn dn W h1 h2 mn1 mn2 mn3; rwa [okB_iff.2 hNok] at this
        clear hNok mn1 mn2 mn3
        obtain ⟨ZNc0, ZNc1⟩ := cells_two ZN
        have ZNlt := ltR ZN
        obtain ⟨ZZc0, ZZc1⟩ := cells_two ZZ
        have ZZlt := ltR ZZ
        go_wp2_with fail
        clear ZNc0 ZNc1 ZNlt ZZc0 ZZc1 ZZlt
        refine (likeCache_rep N an bn az bz1 cn dn cz dz _ RN RNt RZ RZt (Nat.le_trans hNb (by decide))).mono ?_
        rintro e u28w ⟨rfl, bq⟩
        replace b0 := below_step b0 bq
        replace ZN := row_keep bq ZN
        replace ZZ := row_keep bq ZZ
        replace RN := slrd_next RN bq
        replace RNt := slrd_next RNt bq
        replace RZ := slrd_next RZ bq
        replace RZt := slrd_next RZt bq
        clear bq
        obtain ⟨ZNc0, ZNc1⟩ := cells_two ZN
        have ZNlt := ltR ZN
        obtain ⟨ZZc0, ZZc1⟩ := cells_two ZZ
        have ZZlt := ltR ZZ
        go_wp2_with fail
        clear ZNc0 ZNc1 ZNlt ZZc0 ZZc1 ZZlt
        refine (KN.out _ RN RNt).mono ?_
        rintro e u29w ⟨rfl, bq⟩
        replace b0 := below_step b0 bq
        replace ZN := row_keep bq ZN
        replace ZZ := row_keep bq ZZ
        replace RN := slrd_next RN bq
        replace RNt := slrd_next RNt bq
        replace RZ := slrd_next RZ bq
        replace RZt := slrd_next RZt bq
        clear ZN ZZ RN RNt RZ RZt
        go_wp2_with fail
        go_meet
        exact ⟨rfl, b0⟩
    case rest =>
      obtain ⟨rfl, bq⟩ := hcut
      obtain ⟨u38w, hwn⟩ : ∃ x, x = wc := ⟨_, rfl⟩
      subst hwn
      replace b0 := below_step b0 bq
      replace ZC := row_keep bq ZC
      replace ZV := row_keep bq ZV
      replace ZX := row_keep bq ZX
      replace ZY := row_keep bq ZY
      replace ZN := row_keep bq ZN
      replace ZZ := row_keep bq ZZ
      replace RC := slrd_next RC bq
      replace RCt := slrd_next RCt bq
      replace RV := slrd_next RV bq
      replace RX := slrd_next RX bq
      replace RXt := slrd_next RXt bq
      replace RY := slrd_next RY bq
      replace RYt := slrd_next RYt bq
      replace RN := slrd_next RN bq
      replace RNt := slrd_next RNt bq
      replace RZ := slrd_next RZ bq
      replace RZt := slrd_next RZt bq
      clear bq
      clear ZZ RZ RZt ZN RN RNt
      clear HN hNb
      cases gone
      · skip
        clear ZY RY RYt
        clear HY hYb
        obtain ⟨ZCc0, ZCc1⟩ := cells_two ZC
        have ZClt := ltR ZC
        go_wp2_with fail
        clear ZCc0 ZCc1 ZClt
        refine (KOs.out _ RC RCt).mono ?_
        rintro e u39w ⟨rfl, bq⟩
        replace b0 := below_step b0 bq
        replace ZC := row_keep bq ZC
        replace ZV := row_keep bq ZV
        replace ZX := row_keep bq ZX
        replace RC := slrd_next RC bq
        replace RCt := slrd_next RCt bq
        replace RV := slrd_next RV bq
        replace RX := slrd_next RX bq
        replace RXt := slrd_next RXt bq
        clear bq
        cases okc
        · skip
          have hbd := fill_bad (u := (vl, vs, vd)) HF.out.2
          rw [HF.out.1] at hbd
          simp only [Prod.mk.injEq] at hbd
          obtain ⟨rfl, rfl⟩ := hbd
          have KL : Hid (∀ W, Calls Try.prog 17 #[.agg #[.slice ax 0 cx, .slice bx 0 dx], .agg #[.slice none 0 0, .slice none 0 0]] W fun e w' => e = .returned (.bool true) ∧ Below W.heap.size W w') := fun W => likeCache_rep (([], []) : CacheD) ax bx none none cx dx 0 0 W (.inl rfl) (.inl rfl) (.inl rfl) (.inl rfl) (by decide)
          clear RX RXt RC RCt RV ZC ZV KCF HF KOs hXb hvd
          simp only [List.length_nil] at ZX ⊢
          obtain ⟨ZXc0, ZXc1⟩ := cells_two ZX
          have ZXlt := ltR ZX
          go_wp2_with fail
          clear ZXc0 ZXc1 ZXlt
          refine (KL.out _).mono ?_
          rintro e u40w ⟨rfl, bq⟩
          replace b0 := below_step b0 bq
          replace ZX := row_keep bq ZX
          clear ZX
          go_wp2
          go_ret
          exact ⟨rfl, b0⟩
        · skip
          have hokc := okB_iff.1 HF.out.2
          cases isb
          · skip
            have hxc := st_false (u := (vl, vs, vd)) hokc (by rw [HF.out.1])
            rw [HF.out.1] at hxc
            simp only at hxc
            subst hxc
            clear HF KCF KOs hokc
            obtain ⟨ZCc0, ZCc1⟩ := cells_two ZC
            have ZClt := ltR ZC
            obtain ⟨ZXc0, ZXc1⟩ := cells_two ZX
            have ZXlt := ltR ZX
            go_wp2_with fail
            clear ZCc0 ZCc1 ZClt ZXc0 ZXc1 ZXlt
            refine (likeCache_rep X ax bx ac bc cx dx cc dc _ RX RXt RC RCt (Nat.le_trans hXb (by decide))).mono ?_
            rintro e u60w ⟨rfl, bq⟩
            replace b0 := below_step b0 bq
            replace ZC := row_keep bq ZC
            replace ZV := row_keep bq ZV
            replace ZX := row_keep bq ZX
            replace RC := slrd_next RC bq
            replace RCt := slrd_next RCt bq
            replace RV := slrd_next RV bq
            replace RX := slrd_next RX bq
            replace RXt := slrd_next RXt bq
            clear ZC ZV ZX RC RCt RV RX RXt
            go_wp2
            go_ret
            exact ⟨rfl, b0⟩
          · skip
            obtain ⟨hxok, ⟨fi, hxf⟩, hxo⟩ := st_true (u := (vl, vs, vd)) hokc (by rw [HF.out.1])
            rw [HF.out.1] at hxok hxf hxo
            simp only at hxok hxf hxo
            obtain ⟨mx1, mx2, mx3⟩ := max_ok (small_ok hxok)
            have KXo : Hid (∀ W, SlRd waysR W ax X.1 → SlRd intR W bx X.2 → Calls Try.prog 18 #[.agg #[.slice ax X.1.length cx, .slice bx X.2.length dx]] W fun e w' => e = .returned (.bool true) ∧ Below W.heap.size W w') := fun W h1 h2 => by have := implCacheOk_any ax bx X cx dx W h1 h2 mx1 mx2 mx3; rwa [okB_iff.2 hxok] at this
            have KXv : Hid (∀ W, SlRd waysR W ax X.1 → SlRd intR W bx X.2 → Calls Try.prog 13 #[.agg #[.slice ax X.1.length cx, .slice bx X.2.length dx], .int .i64 vl] W fun e w' => ∃ p q, e = .returned (.tuple #[.agg #[.int .i64 vl, .int .i64 vs, .slice p vd.length q], .int .i64 (fi : Int)]) ∧ MadeR wayR W w' [.int .i64 vl, .int .i64 vs, .slice p vd.length q] (vl, vs, vd)) := fun W h1 h2 => by have := implFindW_any ax bx X cx dx vl W h1 h2 mx1 mx2 mx3; rw [hxf] at this; exact this
            have KXF : Hid (∀ (W : World) (l : Int), SlRd waysR W ax X.1 → SlRd intR W bx X.2 → Calls Try.prog 13 #[.agg #[.slice ax X.1.length cx, .slice bx X.2.length dx], .int .i64 l] W fun e w' => ∃ p q, e = .returned (.tuple #[.agg #[.int .i64 (findI X l).1.1, .int .i64 (findI X l).1.2.1, .slice p (findI X l).1.2.2.length q], .int .i64 (findI X l).2]) ∧ MadeR wayR W w' [.int .i64 (findI X l).1.1, .int .i64 (findI X l).1.2.1, .slice p (findI X l).1.2.2.length q] (findI X l).1) := fun W l h1 h2 => implFindW_any ax bx X cx dx l W h1 h2 mx1 mx2 mx3
            have HO : Hid (∀ l : Int, l ≠ vl → 0 ≤ l → (findI c l).1 = (findI X l).1) := hxo
            have hfi0 : (0 : Int) ≤ (fi : Int) := by omega
            clear hxok hxf hxo mx1 mx2 mx3 HF KOs hokc hXb
            obtain ⟨ZCc0, ZCc1⟩ := cells_two ZC
            have ZClt := ltR ZC
            obtain ⟨ZXc0, ZXc1⟩ := cells_two ZX
            have ZXlt := ltR ZX
            obtain ⟨ZVc0, ZVc1, ZVc2⟩ := cells_three ZV
            have ZVlt := ltR ZV
            go_wp2_with fail
            clear ZCc0 ZCc1 ZClt ZXc0 ZXc1 ZXlt ZVc0 ZVc1 ZVc2 ZVlt
            refine (KXv.out _ RX RXt).mono ?_
            rintro e u80w ⟨pz, qz, rfl, mm⟩
            have bq := mm.2
            replace b0 := below_step b0 bq
            replace ZC := row_keep bq ZC
            replace ZV := row_keep bq ZV
            replace ZX := row_keep bq ZX
            replace RC := slrd_next RC bq
            replace RCt := slrd_next RCt bq
            replace RV := slrd_next RV bq
            replace RX := slrd_next RX bq
            replace RXt := slrd_next RXt bq
            have RP := way_reads mm.1
            clear mm bq KXv
            go_upto_region 32 with fail
            have ZP := heap_at u80w (.cells #[.int .i64 vl, .int .i64 vs, .slice pz vd.length qz] 29)
            have bz := box_below u80w (.cells #[.int .i64 vl, .int .i64 vs, .slice pz vd.length qz] 29)
            replace b0 := below_step b0 bz
            replace ZC := row_keep bz ZC
            replace ZV := row_keep bz ZV
            replace ZX := row_keep bz ZX
            replace RC := slrd_next RC bz
            replace RCt := slrd_next RCt bz
            replace RV := slrd_next RV bz
            replace RX := slrd_next RX bz
            replace RXt := slrd_next RXt bz
            replace RP := slrd_next RP bz
            clear bz
            generalize u80w.alloc (.cells #[.int .i64 vl, .int .i64 vs, .slice pz vd.length qz] 29) = u81w at b0 ZC ZV ZX ZP RC RCt RV RX RXt RP ⊢
            have HK : Hid _ := And.intro b0 (And.intro ZC (And.intro ZV (And.intro ZX (And.intro ZP (And.intro RC (And.intro RCt (And.intro RV (And.intro RX (And.intro RXt RP)))))))))
            clear b0 ZC ZV ZX ZP RC RCt RV RX RXt RP
            go_wp2
            go_loopw [31] (fun i wr => ∃ k : Nat, k ≤ 10 ∧ i = .int .i64 k ∧ Below u81w.heap.size u81w wr) (fun i _ => 10 - (intOf i).toNat)
            case atStart => exact ⟨0, Nat.zero_le _, rfl, Below.refl _ _⟩
            case round =>
              obtain ⟨k, hk, rfl, BB⟩ := hrel
              obtain ⟨b0, ZC, ZV, ZX, ZP, RC, RCt, RV, RX, RXt, RP⟩ := HK.out
              replace b0 := below_step b0 BB
              replace ZC := row_keep BB ZC
              replace ZV := row_keep BB ZV
              replace ZX := row_keep BB ZX
              replace ZP := row_keep BB ZP
              replace RC := slrd_next RC BB
              replace RCt := slrd_next RCt BB
              replace RV := slrd_next RV BB
              replace RX := slrd_next RX BB
              replace RXt := slrd_next RXt BB
              replace RP := slrd_next RP BB
              by_cases hlt : k < 10
              · skip
                have hlt' : (k : Int) < 10 := by omega
                have hk0 : (0 : Int) ≤ (k : Int) := by omega
                have hl1 := find_len c (k : Int)
                have hl2 := find_len X (k : Int)
                have C1 := fun W h1 h2 => KCF.out W (k : Int) h1 h2
                have C2 := fun W h1 h2 => KXF.out W (k : Int) h1 h2
                have HOk := HO.out (k : Int)
                generalize findI c (k : Int) = G1 at C1 HOk hl1
                generalize findI X (k : Int) = G2 at C2 HOk hl2
                obtain ⟨⟨gl, gs, gd⟩, gk⟩ := G1
                obtain ⟨⟨hl, hs1, hd⟩, hk2⟩ := G2
                simp only at C1 C2 HOk hl1 hl2
                have HC1 : Hid _ := C1
                have HC2 : Hid _ := C2
                have HO2 : Hid _ := HOk
                clear C1 C2 HOk
                replace BB : Below u81w.heap.size u81w wr := BB
                obtain ⟨ZCc0, ZCc1⟩ := cells_two ZC
                have ZClt := ltR ZC
                go_wp2_with fail
                clear ZCc0 ZCc1 ZClt
                refine (HC1.out _ RC RCt).mono ?_
                rintro e u82w ⟨p1, q1, rfl, mm⟩
                have RG := way_reads mm.1
                have bq := mm.2
                clear mm HC1
                replace BB := below_step BB bq
                replace b0 := below_step b0 bq
                replace ZC := row_keep bq ZC
                replace ZV := row_keep bq ZV
                replace ZX := row_keep bq ZX
                replace ZP := row_keep bq ZP
                replace RC := slrd_next RC bq
                replace RCt := slrd_next RCt bq
                replace RV := slrd_next RV bq
                replace RX := slrd_next RX bq
                replace RXt := slrd_next RXt bq
                replace RP := slrd_next RP bq
                clear bq
                go_upto_region 36 with fail
                replace BB := below_step BB (box_below u82w (.cells #[.int .i64 gl, .int .i64 gs, .slice p1 gd.length q1] 29))
                have ZG := heap_at u82w (.cells #[.int .i64 gl, .int .i64 gs, .slice p1 gd.length q1] 29)
                have bz := box_below u82w (.cells #[.int .i64 gl, .int .i64 gs, .slice p1 gd.length q1] 29)
                replace b0 := below_step b0 bz
                replace ZC := row_keep bz ZC
                replace ZV := row_keep bz ZV
                replace ZX := row_keep bz ZX
                replace ZP := row_keep bz ZP
                replace RC := slrd_next RC bz
                replace RCt := slrd_next RCt bz
                replace RV := slrd_next RV bz
                replace RX := slrd_next RX bz
                replace RXt := slrd_next RXt bz
                replace RP := slrd_next RP bz
                replace RG := slrd_next RG bz
                clear bz
                generalize u82w.alloc (.cells #[.int .i64 gl, .int .i64 gs, .slice p1 gd.length q1] 29) = u83w at BB b0 ZC ZV ZX ZP ZG RC RCt RV RX RXt RP RG ⊢
                obtain ⟨ZXc0, ZXc1⟩ := cells_two ZX
                have ZXlt := ltR ZX
                obtain ⟨ZGc0, ZGc1, ZGc2⟩ := cells_three ZG
                have ZGlt := ltR ZG
                go_wp2_with fail
                clear ZXc0 ZXc1 ZXlt ZGc0 ZGc1 ZGc2 ZGlt
                refine (HC2.out _ RX RXt).mono ?_
                rintro e u84w ⟨p2, q2, rfl, mm⟩
                have RH := way_reads mm.1
                have bq := mm.2
                clear mm HC2
                replace BB := below_step BB bq
                replace b0 := below_step b0 bq
                replace ZC := row_keep bq ZC
                replace ZV := row_keep bq ZV
                replace ZX := row_keep bq ZX
                replace ZP := row_keep bq ZP
                replace ZG := row_keep bq ZG
                replace RC := slrd_next RC bq
                replace RCt := slrd_next RCt bq
                replace RV := slrd_next RV bq
                replace RX := slrd_next RX bq
                replace RXt := slrd_next RXt bq
                replace RP := slrd_next RP bq
                replace RG := slrd_next RG bq
                clear bq
                go_upto_region 37 with fail
                replace BB := below_step BB (box_below u84w (.cells #[.int .i64 hl, .int .i64 hs1, .slice p2 hd.length q2] 29))
                have ZH := heap_at u84w (.cells #[.int .i64 hl, .int .i64 hs1, .slice p2 hd.length q2] 29)
                have bz := box_below u84w (.cells #[.int .i64 hl, .int .i64 hs1, .slice p2 hd.length q2] 29)
                replace b0 := below_step b0 bz
                replace ZC := row_keep bz ZC
                replace ZV := row_keep bz ZV
                replace ZX := row_keep bz ZX
                replace ZP := row_keep bz ZP
                replace ZG := row_keep bz ZG
                replace RC := slrd_next RC bz
                replace RCt := slrd_next RCt bz
                replace RV := slrd_next RV bz
                replace RX := slrd_next RX bz
                replace RXt := slrd_next RXt bz
                replace RP := slrd_next RP bz
                replace RG := slrd_next RG bz
                replace RH := slrd_next RH bz
                clear bz
                generalize u84w.alloc (.cells #[.int .i64 hl, .int .i64 hs1, .slice p2 hd.length q2] 29) = u85w at BB b0 ZC ZV ZX ZP ZG ZH RC RCt RV RX RXt RP RG RH ⊢
                by_cases hkv : (k : Int) = vl
                · skip
                  have hkb : ((k : Int) != vl) = false := by simp [hkv]
                  clear hkv
                  obtain ⟨ZVc0, ZVc1, ZVc2⟩ := cells_three ZV
                  have ZVlt := ltR ZV
                  obtain ⟨ZGc0, ZGc1, ZGc2⟩ := cells_three ZG
                  have ZGlt := ltR ZG
                  obtain ⟨ZHc0, ZHc1, ZHc2⟩ := cells_three ZH
                  have ZHlt := ltR ZH
                  go_wp2
                  go_roundw
                  case rel => exact ⟨k + 1, by omega, by go_num, BB⟩
                  case measure => simp [intOf]; omega
                · skip
                  have hkb : ((k : Int) != vl) = true := by simp [hkv]
                  have hge := HO2.out hkv hk0
                  simp only [Prod.mk.injEq] at hge
                  obtain ⟨rfl, rfl, rfl⟩ := hge
                  clear hkv
                  obtain ⟨ZVc0, ZVc1, ZVc2⟩ := cells_three ZV
                  have ZVlt := ltR ZV
                  obtain ⟨ZGc0, ZGc1, ZGc2⟩ := cells_three ZG
                  have ZGlt := ltR ZG
                  obtain ⟨ZHc0, ZHc1, ZHc2⟩ := cells_three ZH
                  have ZHlt := ltR ZH
                  go_wp2_with fail
                  clear ZVc0 ZVc1 ZVc2 ZVlt ZGc0 ZGc1 ZGc2 ZGlt ZHc0 ZHc1 ZHc2 ZHlt
                  refine (likeWay_rep gl gs gd p1 p2 q1 q2 _ RG RH (ints_bk (by omega))).mono ?_
                  rintro e u96w ⟨rfl, bq⟩
                  replace BB := below_step BB bq
                  clear bq ZC ZV ZX ZP ZG ZH RC RCt RV RX RXt RP RG RH
                  go_wp2
                  go_roundw
                  case rel => exact ⟨k + 1, by omega, by go_num, BB⟩
                  case measure => simp [intOf]; omega
              · skip
                have hk10 : k = 10 := by omega
                subst hk10
                clear HK KCF KXF HO BB hlt
                obtain ⟨ZXc0, ZXc1⟩ := cells_two ZX
                have ZXlt := ltR ZX
                obtain ⟨ZVc0, ZVc1, ZVc2⟩ := cells_three ZV
                have ZVlt := ltR ZV
                obtain ⟨ZPc0, ZPc1, ZPc2⟩ := cells_three ZP
                have ZPlt := ltR ZP
                go_wp2_with fail
                clear ZXc0 ZXc1 ZXlt ZVc0 ZVc1 ZVc2 ZVlt ZPc0 ZPc1 ZPc2 ZPlt
                refine (KXo.out _ RX RXt).mono ?_
                rintro e u112w ⟨rfl, bq⟩
                replace b0 := below_step b0 bq
                replace ZC := row_keep bq ZC
                replace ZV := row_keep bq ZV
                replace ZX := row_keep bq ZX
                replace ZP := row_keep bq ZP
                replace RC := slrd_next RC bq
                replace RCt := slrd_next RCt bq
                replace RV := slrd_next RV bq
                replace RX := slrd_next RX bq
                replace RXt := slrd_next RXt bq
                replace RP := slrd_next RP bq
                clear bq KXo
                obtain ⟨ZXc0, ZXc1⟩ := cells_two ZX
                have ZXlt := ltR ZX
                obtain ⟨ZVc0, ZVc1, ZVc2⟩ := cells_three ZV
                have ZVlt := ltR ZV
                obtain ⟨ZPc0, ZPc1, ZPc2⟩ := cells_three ZP
                have ZPlt := ltR ZP
                go_wp2_with fail
                clear ZXc0 ZXc1 ZXlt ZVc0 ZVc1 ZVc2 ZVlt ZPc0 ZPc1 ZPc2 ZPlt
                refine (likeWay_rep vl vs vd pz va qz vc _ RP RV (ints_bk (by omega))).mono ?_
                rintro e u113w ⟨rfl, bq⟩
                replace b0 := below_step b0 bq
                replace ZC := row_keep bq ZC
                replace ZV := row_keep bq ZV
                replace ZX := row_keep bq ZX
                replace ZP := row_keep bq ZP
                replace RC := slrd_next RC bq
                replace RCt := slrd_next RCt bq
                replace RV := slrd_next RV bq
                replace RX := slrd_next RX bq
                replace RXt := slrd_next RXt bq
                replace RP := slrd_next RP bq
                clear ZC ZV ZX ZP RC RCt RV RX RXt RP
                go_wp2
                go_ret
                exact ⟨rfl, b0⟩
      · skip
        obtain ⟨hyok, hyf⟩ := st_gone (d := d) (l := ln) (by rw [HY.out])
        rw [HY.out] at hyok hyf
        simp only at hyok hyf
        obtain ⟨my1, my2, my3⟩ := max_ok (small_ok hyok)
        have KYo : Hid (∀ W, SlRd waysR W ay Y.1 → SlRd intR W by_ Y.2 → Calls Try.prog 18 #[.agg #[.slice ay Y.1.length cy, .slice by_ Y.2.length dy]] W fun e w' => e = .returned (.bool true) ∧ Below W.heap.size W w') := fun W h1 h2 => by have := implCacheOk_any ay by_ Y cy dy W h1 h2 my1 my2 my3; rwa [okB_iff.2 hyok] at this
        have KYf : Hid (∀ W, SlRd waysR W ay Y.1 → SlRd intR W by_ Y.2 → Calls Try.prog 13 #[.agg #[.slice ay Y.1.length cy, .slice by_ Y.2.length dy], .int .i64 ln] W fun e w' => ∃ (f : WayD) (p : Option Addr) (q : Nat), e = .returned (.tuple #[.agg #[.int .i64 f.1, .int .i64 f.2.1, .slice p f.2.2.length q], .int .i64 (-1)]) ∧ Below W.heap.size W w') := fun W h1 h2 => (implFindW_any ay by_ Y cy dy ln W h1 h2 my1 my2 my3).mono fun e w' ⟨p, q, he, mm⟩ => ⟨(findI Y ln).1, p, q, he.trans (by rw [hyf]), mm.2⟩
        clear hyok hyf my1 my2 my3 HY hYb
        obtain ⟨ZYc0, ZYc1⟩ := cells_two ZY
        have ZYlt := ltR ZY
        go_wp2_with fail
        clear ZYc0 ZYc1 ZYlt
        refine (KYf.out _ RY RYt).mono ?_
        rintro e u139w ⟨f, pf, qf, rfl, bq⟩
        replace b0 := below_step b0 bq
        replace ZC := row_keep bq ZC
        replace ZV := row_keep bq ZV
        replace ZX := row_keep bq ZX
        replace ZY := row_keep bq ZY
        replace RC := slrd_next RC bq
        replace RCt := slrd_next RCt bq
        replace RV := slrd_next RV bq
        replace RX := slrd_next RX bq
        replace RXt := slrd_next RXt bq
        replace RY := slrd_next RY bq
        replace RYt := slrd_next RYt bq
        clear bq KYf
        go_upto_region 25 with fail
        have ZZ := heap_at u139w (.cells #[.int .i64 f.1, .int .i64 f.2.1, .slice pf f.2.2.length qf] 29)
        have bz := box_below u139w (.cells #[.int .i64 f.1, .int .i64 f.2.1, .slice pf f.2.2.length qf] 29)
        replace b0 := below_step b0 bz
        replace ZC := row_keep bz ZC
        replace ZV := row_keep bz ZV
        replace ZX := row_keep bz ZX
        replace ZY := row_keep bz ZY
        replace RC := slrd_next RC bz
        replace RCt := slrd_next RCt bz
        replace RV := slrd_next RV bz
        replace RX := slrd_next RX bz
        replace RXt := slrd_next RXt bz
        replace RY := slrd_next RY bz
        replace RYt := slrd_next RYt bz
        clear bz
        generalize u139w.alloc (.cells #[.int .i64 f.1, .int .i64 f.2.1, .slice pf f.2.2.length qf] 29) = u140w at b0 ZC ZV ZX ZY ZZ RC RCt RV RX RXt RY RYt ⊢
        obtain ⟨ZYc0, ZYc1⟩ := cells_two ZY
        have ZYlt := ltR ZY
        obtain ⟨ZZc0, ZZc1, ZZc2⟩ := cells_three ZZ
        have ZZlt := ltR ZZ
        go_wp2_with fail
        clear ZYc0 ZYc1 ZYlt ZZc0 ZZc1 ZZc2 ZZlt
        refine (KYo.out _ RY RYt).mono ?_
        rintro e u141w ⟨rfl, bq⟩
        replace b0 := below_step b0 bq
        replace ZC := row_keep bq ZC
        replace ZV := row_keep bq ZV
        replace ZX := row_keep bq ZX
        replace ZY := row_keep bq ZY
        replace ZZ := row_keep bq ZZ
        replace RC := slrd_next RC bq
        replace RCt := slrd_next RCt bq
        replace RV := slrd_next RV bq
        replace RX := slrd_next RX bq
        replace RXt := slrd_next RXt bq
        replace RY := slrd_next RY bq
        replace RYt := slrd_next RYt bq
        clear bq KYo
        clear ZZ ZY RY RYt
        obtain ⟨ZCc0, ZCc1⟩ := cells_two ZC
        have ZClt := ltR ZC
        go_wp2_with fail
        clear ZCc0 ZCc1 ZClt
        refine (KOs.out _ RC RCt).mono ?_
        rintro e u142w ⟨rfl, bq⟩
        replace b0 := below_step b0 bq
        replace ZC := row_keep bq ZC
        replace ZV := row_keep bq ZV
        replace ZX := row_keep bq ZX
        replace RC := slrd_next RC bq
        replace RCt := slrd_next RCt bq
        replace RV := slrd_next RV bq
        replace RX := slrd_next RX bq
        replace RXt := slrd_next RXt bq
        clear bq
        cases okc
        · skip
          have hbd := fill_bad (u := (vl, vs, vd)) HF.out.2
          rw [HF.out.1] at hbd
          simp only [Prod.mk.injEq] at hbd
          obtain ⟨rfl, rfl⟩ := hbd
          have KL : Hid (∀ W, Calls Try.prog 17 #[.agg #[.slice ax 0 cx, .slice bx 0 dx], .agg #[.slice none 0 0, .slice none 0 0]] W fun e w' => e = .returned (.bool true) ∧ Below W.heap.size W w') := fun W => likeCache_rep (([], []) : CacheD) ax bx none none cx dx 0 0 W (.inl rfl) (.inl rfl) (.inl rfl) (.inl rfl) (by decide)
          clear RX RXt RC RCt RV ZC ZV KCF HF KOs hXb hvd
          simp only [List.length_nil] at ZX ⊢
          obtain ⟨ZXc0, ZXc1⟩ := cells_two ZX
          have ZXlt := ltR ZX
          go_wp2_with fail
          clear ZXc0 ZXc1 ZXlt
          refine (KL.out _).mono ?_
          rintro e u143w ⟨rfl, bq⟩
          replace b0 := below_step b0 bq
          replace ZX := row_keep bq ZX
          clear ZX
          go_wp2
          go_ret
          exact ⟨rfl, b0⟩
        · skip
          have hokc := okB_iff.1 HF.out.2
          cases isb
          · skip
            have hxc := st_false (u := (vl, vs, vd)) hokc (by rw [HF.out.1])
            rw [HF.out.1] at hxc
            simp only at hxc
            subst hxc
            clear HF KCF KOs hokc
            obtain ⟨ZCc0, ZCc1⟩ := cells_two ZC
            have ZClt := ltR ZC
            obtain ⟨ZXc0, ZXc1⟩ := cells_two ZX
            have ZXlt := ltR ZX
            go_wp2_with fail
            clear ZCc0 ZCc1 ZClt ZXc0 ZXc1 ZXlt
            refine (likeCache_rep X ax bx ac bc cx dx cc dc _ RX RXt RC RCt (Nat.le_trans hXb (by decide))).mono ?_
            rintro e u163w ⟨rfl, bq⟩
            replace b0 := below_step b0 bq
            replace ZC := row_keep bq ZC
            replace ZV := row_keep bq ZV
            replace ZX := row_keep bq ZX
            replace RC := slrd_next RC bq
            replace RCt := slrd_next RCt bq
            replace RV := slrd_next RV bq
            replace RX := slrd_next RX bq
            replace RXt := slrd_next RXt bq
            clear ZC ZV ZX RC RCt RV RX RXt
            go_wp2
            go_ret
            exact ⟨rfl, b0⟩
          · skip
            obtain ⟨hxok, ⟨fi, hxf⟩, hxo⟩ := st_true (u := (vl, vs, vd)) hokc (by rw [HF.out.1])
            rw [HF.out.1] at hxok hxf hxo
            simp only at hxok hxf hxo
            obtain ⟨mx1, mx2, mx3⟩ := max_ok (small_ok hxok)
            have KXo : Hid (∀ W, SlRd waysR W ax X.1 → SlRd intR W bx X.2 → Calls Try.prog 18 #[.agg #[.slice ax X.1.length cx, .slice bx X.2.length dx]] W fun e w' => e = .returned (.bool true) ∧ Below W.heap.size W w') := fun W h1 h2 => by have := implCacheOk_any ax bx X cx dx W h1 h2 mx1 mx2 mx3; rwa [okB_iff.2 hxok] at this
            have KXv : Hid (∀ W, SlRd waysR W ax X.1 → SlRd intR W bx X.2 → Calls Try.prog 13 #[.agg #[.slice ax X.1.length cx, .slice bx X.2.length dx], .int .i64 vl] W fun e w' => ∃ p q, e = .returned (.tuple #[.agg #[.int .i64 vl, .int .i64 vs, .slice p vd.length q], .int .i64 (fi : Int)]) ∧ MadeR wayR W w' [.int .i64 vl, .int .i64 vs, .slice p vd.length q] (vl, vs, vd)) := fun W h1 h2 => by have := implFindW_any ax bx X cx dx vl W h1 h2 mx1 mx2 mx3; rw [hxf] at this; exact this
            have KXF : Hid (∀ (W : World) (l : Int), SlRd waysR W ax X.1 → SlRd intR W bx X.2 → Calls Try.prog 13 #[.agg #[.slice ax X.1.length cx, .slice bx X.2.length dx], .int .i64 l] W fun e w' => ∃ p q, e = .returned (.tuple #[.agg #[.int .i64 (findI X l).1.1, .int .i64 (findI X l).1.2.1, .slice p (findI X l).1.2.2.length q], .int .i64 (findI X l).2]) ∧ MadeR wayR W w' [.int .i64 (findI X l).1.1, .int .i64 (findI X l).1.2.1, .slice p (findI X l).1.2.2.length q] (findI X l).1) := fun W l h1 h2 => implFindW_any ax bx X cx dx l W h1 h2 mx1 mx2 mx3
            have HO : Hid (∀ l : Int, l ≠ vl → 0 ≤ l → (findI c l).1 = (findI X l).1) := hxo
            have hfi0 : (0 : Int) ≤ (fi : Int) := by omega
            clear hxok hxf hxo mx1 mx2 mx3 HF KOs hokc hXb
            obtain ⟨ZCc0, ZCc1⟩ := cells_two ZC
            have ZClt := ltR ZC
            obtain ⟨ZXc0, ZXc1⟩ := cells_two ZX
            have ZXlt := ltR ZX
            obtain ⟨ZVc0, ZVc1, ZVc2⟩ := cells_three ZV
            have ZVlt := ltR ZV
            go_wp2_with fail
            clear ZCc0 ZCc1 ZClt ZXc0 ZXc1 ZXlt ZVc0 ZVc1 ZVc2 ZVlt
            refine (KXv.out _ RX RXt).mono ?_
            rintro e u183w ⟨pz, qz, rfl, mm⟩
            have bq := mm.2
            replace b0 := below_step b0 bq
            replace ZC := row_keep bq ZC
            replace ZV := row_keep bq ZV
            replace ZX := row_keep bq ZX
            replace RC := slrd_next RC bq
            replace RCt := slrd_next RCt bq
            replace RV := slrd_next RV bq
            replace RX := slrd_next RX bq
            replace RXt := slrd_next RXt bq
            have RP := way_reads mm.1
            clear mm bq KXv
            go_upto_region 32 with fail
            have ZP := heap_at u183w (.cells #[.int .i64 vl, .int .i64 vs, .slice pz vd.length qz] 29)
            have bz := box_below u183w (.cells #[.int .i64 vl, .int .i64 vs, .slice pz vd.length qz] 29)
            replace b0 := below_step b0 bz
            replace ZC := row_keep bz ZC
            replace ZV := row_keep bz ZV
            replace ZX := row_keep bz ZX
            replace RC := slrd_next RC bz
            replace RCt := slrd_next RCt bz
            replace RV := slrd_next RV bz
            replace RX := slrd_next RX bz
            replace RXt := slrd_next RXt bz
            replace RP := slrd_next RP bz
            clear bz
            generalize u183w.alloc (.cells #[.int .i64 vl, .int .i64 vs, .slice pz vd.length qz] 29) = u184w at b0 ZC ZV ZX ZP RC RCt RV RX RXt RP ⊢
            have HK : Hid _ := And.intro b0 (And.intro ZC (And.intro ZV (And.intro ZX (And.intro ZP (And.intro RC (And.intro RCt (And.intro RV (And.intro RX (And.intro RXt RP)))))))))
            clear b0 ZC ZV ZX ZP RC RCt RV RX RXt RP
            go_wp2
            go_loopw [31] (fun i wr => ∃ k : Nat, k ≤ 10 ∧ i = .int .i64 k ∧ Below u184w.heap.size u184w wr) (fun i _ => 10 - (intOf i).toNat)
            case atStart => exact ⟨0, Nat.zero_le _, rfl, Below.refl _ _⟩
            case round =>
              obtain ⟨k, hk, rfl, BB⟩ := hrel
              obtain ⟨b0, ZC, ZV, ZX, ZP, RC, RCt, RV, RX, RXt, RP⟩ := HK.out
              replace b0 := below_step b0 BB
              replace ZC := row_keep BB ZC
              replace ZV := row_keep BB ZV
              replace ZX := row_keep BB ZX
              replace ZP := row_keep BB ZP
              replace RC := slrd_next RC BB
              replace RCt := slrd_next RCt BB
              replace RV := slrd_next RV BB
              replace RX := slrd_next RX BB
              replace RXt := slrd_next RXt BB
              replace RP := slrd_next RP BB
              by_cases hlt : k < 10
              · skip
                have hlt' : (k : Int) < 10 := by omega
                have hk0 : (0 : Int) ≤ (k : Int) := by omega
                have hl1 := find_len c (k : Int)
                have hl2 := find_len X (k : Int)
                have C1 := fun W h1 h2 => KCF.out W (k : Int) h1 h2
                have C2 := fun W h1 h2 => KXF.out W (k : Int) h1 h2
                have HOk := HO.out (k : Int)
                generalize findI c (k : Int) = G1 at C1 HOk hl1
                generalize findI X (k : Int) = G2 at C2 HOk hl2
                obtain ⟨⟨gl, gs, gd⟩, gk⟩ := G1
                obtain ⟨⟨hl, hs1, hd⟩, hk2⟩ := G2
                simp only at C1 C2 HOk hl1 hl2
                have HC1 : Hid _ := C1
                have HC2 : Hid _ := C2
                have HO2 : Hid _ := HOk
                clear C1 C2 HOk
                replace BB : Below u184w.heap.size u184w wr := BB
                obtain ⟨ZCc0, ZCc1⟩ := cells_two ZC
                have ZClt := ltR ZC
                go_wp2_with fail
                clear ZCc0 ZCc1 ZClt
                refine (HC1.out _ RC RCt).mono ?_
                rintro e u185w ⟨p1, q1, rfl, mm⟩
                have RG := way_reads mm.1
                have bq := mm.2
                clear mm HC1
                replace BB := below_step BB bq
                replace b0 := below_step b0 bq
                replace ZC := row_keep bq ZC
                replace ZV := row_keep bq ZV
                replace ZX := row_keep bq ZX
                replace ZP := row_keep bq ZP
                replace RC := slrd_next RC bq
                replace RCt := slrd_next RCt bq
                replace RV := slrd_next RV bq
                replace RX := slrd_next RX bq
                replace RXt := slrd_next RXt bq
                replace RP := slrd_next RP bq
                clear bq
                go_upto_region 36 with fail
                replace BB := below_step BB (box_below u185w (.cells #[.int .i64 gl, .int .i64 gs, .slice p1 gd.length q1] 29))
                have ZG := heap_at u185w (.cells #[.int .i64 gl, .int .i64 gs, .slice p1 gd.length q1] 29)
                have bz := box_below u185w (.cells #[.int .i64 gl, .int .i64 gs, .slice p1 gd.length q1] 29)
                replace b0 := below_step b0 bz
                replace ZC := row_keep bz ZC
                replace ZV := row_keep bz ZV
                replace ZX := row_keep bz ZX
                replace ZP := row_keep bz ZP
                replace RC := slrd_next RC bz
                replace RCt := slrd_next RCt bz
                replace RV := slrd_next RV bz
                replace RX := slrd_next RX bz
                replace RXt := slrd_next RXt bz
                replace RP := slrd_next RP bz
                replace RG := slrd_next RG bz
                clear bz
                generalize u185w.alloc (.cells #[.int .i64 gl, .int .i64 gs, .slice p1 gd.length q1] 29) = u186w at BB b0 ZC ZV ZX ZP ZG RC RCt RV RX RXt RP RG ⊢
                obtain ⟨ZXc0, ZXc1⟩ := cells_two ZX
                have ZXlt := ltR ZX
                obtain ⟨ZGc0, ZGc1, ZGc2⟩ := cells_three ZG
                have ZGlt := ltR ZG
                go_wp2_with fail
                clear ZXc0 ZXc1 ZXlt ZGc0 ZGc1 ZGc2 ZGlt
                refine (HC2.out _ RX RXt).mono ?_
                rintro e u187w ⟨p2, q2, rfl, mm⟩
                have RH := way_reads mm.1
                have bq := mm.2
                clear mm HC2
                replace BB := below_step BB bq
                replace b0 := below_step b0 bq
                replace ZC := row_keep bq ZC
                replace ZV := row_keep bq ZV
                replace ZX := row_keep bq ZX
                replace ZP := row_keep bq ZP
                replace ZG := row_keep bq ZG
                replace RC := slrd_next RC bq
                replace RCt := slrd_next RCt bq
                replace RV := slrd_next RV bq
                replace RX := slrd_next RX bq
                replace RXt := slrd_next RXt bq
                replace RP := slrd_next RP bq
                replace RG := slrd_next RG bq
                clear bq
                go_upto_region 37 with fail
                replace BB := below_step BB (box_below u187w (.cells #[.int .i64 hl, .int .i64 hs1, .slice p2 hd.length q2] 29))
                have ZH := heap_at u187w (.cells #[.int .i64 hl, .int .i64 hs1, .slice p2 hd.length q2] 29)
                have bz := box_below u187w (.cells #[.int .i64 hl, .int .i64 hs1, .slice p2 hd.length q2] 29)
                replace b0 := below_step b0 bz
                replace ZC := row_keep bz ZC
                replace ZV := row_keep bz ZV
                replace ZX := row_keep bz ZX
                replace ZP := row_keep bz ZP
                replace ZG := row_keep bz ZG
                replace RC := slrd_next RC bz
                replace RCt := slrd_next RCt bz
                replace RV := slrd_next RV bz
                replace RX := slrd_next RX bz
                replace RXt := slrd_next RXt bz
                replace RP := slrd_next RP bz
                replace RG := slrd_next RG bz
                replace RH := slrd_next RH bz
                clear bz
                generalize u187w.alloc (.cells #[.int .i64 hl, .int .i64 hs1, .slice p2 hd.length q2] 29) = u188w at BB b0 ZC ZV ZX ZP ZG ZH RC RCt RV RX RXt RP RG RH ⊢
                by_cases hkv : (k : Int) = vl
                · skip
                  have hkb : ((k : Int) != vl) = false := by simp [hkv]
                  clear hkv
                  obtain ⟨ZVc0, ZVc1, ZVc2⟩ := cells_three ZV
                  have ZVlt := ltR ZV
                  obtain ⟨ZGc0, ZGc1, ZGc2⟩ := cells_three ZG
                  have ZGlt := ltR ZG
                  obtain ⟨ZHc0, ZHc1, ZHc2⟩ := cells_three ZH
                  have ZHlt := ltR ZH
                  go_wp2
                  go_roundw
                  case rel => exact ⟨k + 1, by omega, by go_num, BB⟩
                  case measure => simp [intOf]; omega
                · skip
                  have hkb : ((k : Int) != vl) = true := by simp [hkv]
                  have hge := HO2.out hkv hk0
                  simp only [Prod.mk.injEq] at hge
                  obtain ⟨rfl, rfl, rfl⟩ := hge
                  clear hkv
                  obtain ⟨ZVc0, ZVc1, ZVc2⟩ := cells_three ZV
                  have ZVlt := ltR ZV
                  obtain ⟨ZGc0, ZGc1, ZGc2⟩ := cells_three ZG
                  have ZGlt := ltR ZG
                  obtain ⟨ZHc0, ZHc1, ZHc2⟩ := cells_three ZH
                  have ZHlt := ltR ZH
                  go_wp2_with fail
                  clear ZVc0 ZVc1 ZVc2 ZVlt ZGc0 ZGc1 ZGc2 ZGlt ZHc0 ZHc1 ZHc2 ZHlt
                  refine (likeWay_rep gl gs gd p1 p2 q1 q2 _ RG RH (ints_bk (by omega))).mono ?_
                  rintro e u199w ⟨rfl, bq⟩
                  replace BB := below_step BB bq
                  clear bq ZC ZV ZX ZP ZG ZH RC RCt RV RX RXt RP RG RH
                  go_wp2
                  go_roundw
                  case rel => exact ⟨k + 1, by omega, by go_num, BB⟩
                  case measure => simp [intOf]; omega
              · skip
                have hk10 : k = 10 := by omega
                subst hk10
                clear HK KCF KXF HO BB hlt
                obtain ⟨ZXc0, ZXc1⟩ := cells_two ZX
                have ZXlt := ltR ZX
                obtain ⟨ZVc0, ZVc1, ZVc2⟩ := cells_three ZV
                have ZVlt := ltR ZV
                obtain ⟨ZPc0, ZPc1, ZPc2⟩ := cells_three ZP
                have ZPlt := ltR ZP
                go_wp2_with fail
                clear ZXc0 ZXc1 ZXlt ZVc0 ZVc1 ZVc2 ZVlt ZPc0 ZPc1 ZPc2 ZPlt
                refine (KXo.out _ RX RXt).mono ?_
                rintro e u215w ⟨rfl, bq⟩
                replace b0 := below_step b0 bq
                replace ZC := row_keep bq ZC
                replace ZV := row_keep bq ZV
                replace ZX := row_keep bq ZX
                replace ZP := row_keep bq ZP
                replace RC := slrd_next RC bq
                replace RCt := slrd_next RCt bq
                replace RV := slrd_next RV bq
                replace RX := slrd_next RX bq
                replace RXt := slrd_next RXt bq
                replace RP := slrd_next RP bq
                clear bq KXo
                obtain ⟨ZXc0, ZXc1⟩ := cells_two ZX
                have ZXlt := ltR ZX
                obtain ⟨ZVc0, ZVc1, ZVc2⟩ := cells_three ZV
                have ZVlt := ltR ZV
                obtain ⟨ZPc0, ZPc1, ZPc2⟩ := cells_three ZP
                have ZPlt := ltR ZP
                go_wp2_with fail
                clear ZXc0 ZXc1 ZXlt ZVc0 ZVc1 ZVc2 ZVlt ZPc0 ZPc1 ZPc2 ZPlt
                refine (likeWay_rep vl vs vd pz va qz vc _ RP RV (ints_bk (by omega))).mono ?_
                rintro e u216w ⟨rfl, bq⟩
                replace b0 := below_step b0 bq
                replace ZC := row_keep bq ZC
                replace ZV := row_keep bq ZV
                replace ZX := row_keep bq ZX
                replace ZP := row_keep bq ZP
                replace RC := slrd_next RC bq
                replace RCt := slrd_next RCt bq
                replace RV := slrd_next RV bq
                replace RX := slrd_next RX bq
                replace RXt := slrd_next RXt bq
                replace RP := slrd_next RP bq
                clear ZC ZV ZX ZP RC RCt RV RX RXt RP
                go_wp2
                go_ret
                exact ⟨rfl, b0⟩
end Go.Proofs.Ytnalbbfilejokaa
