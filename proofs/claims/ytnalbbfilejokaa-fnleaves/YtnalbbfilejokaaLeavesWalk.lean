/- The law FnLeaves returns true at every code of at most 4096 bytes, and nothing that was there turns. -/
import Derived.Test.YtnalbbfilejokaaDrawSto5
import Derived.Test.YtnalbbfilejokaaFinds
namespace Go.Proofs.Ytnalbbfilejokaa
open Go.ChangeShapes Go.WideShapes Go.ChangeAt Go.RowKit
set_option linter.unusedVariables false

theorem vic_in : ∀ t n : Int, treeB t n = true → 0 ≤ goI t n ∧ goI t n < n := fun t n h => ⟨(go_in h).1, (go_in h).2.1⟩
theorem full_w {l : Int} (h0 : 0 ≤ l) (h1 : l ≤ 15) : fullB isL (l, 1, [1, 2]) = true := by
  have : isL [1, 2] = true := by decide
  simp [fullB, this]
  omega
theorem drop_put {c : CacheD} {u : WayD} {j : Nat} {line : Int} (hok : OkC isL treeB c) (ha : atC c u.1 = some j) (hs : setNo c u.1 = setNo c line) : ∃ i, putNo (dropX c u.1 j) line = some i := by
  obtain ⟨d1, d2, d3⟩ := drop_ok hok ha
  have hl : (dropX c u.1 j).1.length = c.1.length := by simp [dropX]
  have e : ∀ x : Int, setNo (dropX c u.1 j) x = setNo c x := fun x => by unfold setNo; rw [hl]
  have hr : roomC (dropX c u.1 j) line = roomC (dropX c u.1 j) u.1 := by
    unfold roomC rowFor
    rw [e, e, hs]
  unfold putNo
  split
  · exact ⟨_, rfl⟩
  · rw [hr]
    cases h : roomC (dropX c u.1 j) u.1 with
    | none => exact absurd h d3
    | some i => exact ⟨i, rfl⟩
/-- What FnLeaves says, of plain lists. -/
theorem leaves_facts {c : CacheD} {l : Int} (hok : OkC isL treeB c) (h0 : 0 ≤ l) (h1 : l ≤ 15) (hp : putNo c l = none) :
    ∃ out, leavesI c l = out ∧ 0 ≤ out ∧ out ≤ 15 ∧ out ≠ l ∧ (out - l).tmod (c.1.length : Int) = 0 ∧ (dropI c out).2 = true ∧ (fillI (dropI c out).1 (l, 1, [1, 2])).2 = true ∧ (fillI c (l, 1, [1, 2])).2 = false := by
  obtain ⟨j, u, hu, hg, hf, hset, hne, hat⟩ := leaves_none vic_in hok hp h0
  have hb : betw l 0 15 = true := by simp [betw]; omega
  have hlv : leavesI c l = u.1 := by
    unfold leavesI leavesC
    rw [okB_iff.2 hok, hb, hp]
    simp only [Bool.and_self, if_true]
    rw [hg]
  have hfl := full_line hf
  have hd : dropI c u.1 = (dropX c u.1 j, true) := drop_some hok hat
  obtain ⟨i, hi⟩ := drop_put (line := l) hok hat hset
  have hok2 := (drop_ok hok hat).1
  have hp3 := hok.1
  have e1 := setNo_cast (line := u.1) hp3
  have e2 := setNo_cast (line := l) hp3
  rw [hset] at e1
  refine ⟨u.1, hlv, hfl.1, hfl.2, hne, ?_, by rw [hd], ?_, by rw [fill_none hok hp]⟩
  · have hm : u.1 % (c.1.length : Int) = l % (c.1.length : Int) := by omega
    have hdv : (c.1.length : Int) ∣ u.1 - l := Int.dvd_of_emod_eq_zero (by rw [Int.sub_emod, hm]; simp)
    exact Int.tmod_eq_zero_of_dvd hdv
  · rw [hd]
    show (fillI (dropX c u.1 j) (l, 1, [1, 2])).2 = true
    rw [fill_at hok2 (full_w h0 h1) hi]
theorem slrd_two {w : World} {g : Nat} (h : w.heap[g]? = some (.cells #[.int .i64 1, .int .i64 2] 2 (0, 0))) : SlRd intR w (some ⟨g, 0, none⟩) [1, 2] := by
  refine .inr ⟨g, 0, [.int .i64 1, .int .i64 2], rfl, lrd_ints.2 ⟨rfl, fun x hx => ?_⟩, fun j u hu => ?_⟩
  · simp at hx
    rcases hx with rfl | rfl
    · exact small64 (by omega) (by omega)
    · exact small64 (by omega) (by omega)
  · rw [cell_of_row w g _ _ _ (0, 0) h, Nat.zero_add]
    simpa using hu
set_option maxHeartbeats 8000000 in
set_option maxRecDepth 100000 in
theorem leaves_law (a : Option Addr) (len cap : Nat) (zs : List Int) (w : World) (hr : Row8 w a len zs) (hs : len ≤ 4096) :
    Calls Try.prog 4 #[.slice a len cap] w fun e w' => e = .returned (.bool true) ∧ Below w.heap.size w w' := by
  have hbig : decide ((4096 : Int) < len) = false := by simp; omega
  go_enter Try.func4, Try.ntmps4
  go_wp2_with fail
  refine (big_any _ _ _ _).mono ?_
  rintro e w0 ⟨rfl, hw⟩
  rw [hw]
  clear hw w0
  rw [hbig]
  clear hbig
  go_wp2_with fail
  refine (drawLeaves_any _ _ _ zs _ hr).mono ?_
  rintro e w2 ⟨c, av, cv, bv, dv, l, rfl, hsm, hl64, hdf⟩
  obtain ⟨RS, RT⟩ := hdf.1 w2 (fun _ _ _ => rfl)
  have b0 := hdf.2
  clear hdf hr hs
  have hm1 : c.1.length ≤ maxLen := by have := hsm.1; unfold maxLen; omega
  have hm2 : c.2.length ≤ maxLen := by have := hsm.2.1; unfold maxLen; omega
  have hm3 : ∀ row ∈ c.1, row.length ≤ maxLen := fun row hrow => by have := hsm.2.2 row hrow; unfold maxLen; omega
  go_upto_region 4 with fail
  have ZC := heap_at w2 (.cells #[.slice av c.1.length cv, .slice bv c.2.length dv] 27)
  have bz := box_below w2 (.cells #[.slice av c.1.length cv, .slice bv c.2.length dv] 27)
  replace b0 := below_step b0 bz
  replace RS := slrd_next RS bz
  replace RT := slrd_next RT bz
  clear bz
  generalize w2.alloc (.cells #[.slice av c.1.length cv, .slice bv c.2.length dv] 27) = v2 at b0 ZC RS RT ⊢
  generalize hout : leavesI c l = out
  generalize hokb : okB isL treeB c = okb
  have KL : Hid (∀ W, SlRd waysR W av c.1 → SlRd intR W bv c.2 → Calls Try.prog 25 #[.agg #[.slice av c.1.length cv, .slice bv c.2.length dv], .int .i64 l] W fun e w' => e = .returned (.int .i64 out) ∧ Below W.heap.size W w') := fun W h1 h2 => by rw [← hout]; exact implLeaves_any av bv c cv dv l W h1 h2 hm1 hm2 hm3
  have KM : Hid (∀ W, SlRd waysR W av c.1 → SlRd intR W bv c.2 → Calls Try.prog 26 #[.agg #[.slice av c.1.length cv, .slice bv c.2.length dv], .int .i64 l] W fun e w' => e = .returned (.int .i64 out) ∧ Below W.heap.size W w') := fun W h1 h2 => by rw [← hout]; exact specLeaves_any av bv c cv dv l W h1 h2 hm1 hm2 hm3
  have KO : Hid (∀ W, SlRd waysR W av c.1 → SlRd intR W bv c.2 → Calls Try.prog 19 #[.agg #[.slice av c.1.length cv, .slice bv c.2.length dv]] W fun e w' => e = .returned (.bool okb) ∧ Below W.heap.size W w') := fun W h1 h2 => by rw [← hokb]; exact specCacheOk_any av bv c cv dv W h1 h2 hm1 hm2 hm3
  by_cases hin : (okb && betw l 0 15) = false
  · have hout1 : out = -1 := by rw [← hout]; exact leaves_no (by rw [hokb]; exact hin)
    subst hout1
    clear hout hm1 hm2 hm3 hsm hl64
    cases okb
    · clear hokb hin
      obtain ⟨ZCc0, ZCc1⟩ := cells_two ZC
      have ZClt := ltR ZC
      go_wp2_with fail
      clear ZCc0 ZCc1 ZClt
      refine (KL.out _ RS RT).mono ?_
      rintro e v3 ⟨rfl, bq⟩
      replace b0 := below_step b0 bq
      replace ZC := row_keep bq ZC
      replace RS := slrd_next RS bq
      replace RT := slrd_next RT bq
      clear bq KL
      obtain ⟨ZCc0, ZCc1⟩ := cells_two ZC
      have ZClt := ltR ZC
      go_wp2_with fail
      clear ZCc0 ZCc1 ZClt
      refine (KM.out _ RS RT).mono ?_
      rintro e v4 ⟨rfl, bq⟩
      replace b0 := below_step b0 bq
      replace ZC := row_keep bq ZC
      replace RS := slrd_next RS bq
      replace RT := slrd_next RT bq
      clear bq KM
      obtain ⟨ZCc0, ZCc1⟩ := cells_two ZC
      have ZClt := ltR ZC
      go_wp2_with fail
      clear ZCc0 ZCc1 ZClt
      refine (KO.out _ RS RT).mono ?_
      rintro e v5 ⟨rfl, bq⟩
      replace b0 := below_step b0 bq
      replace ZC := row_keep bq ZC
      replace RS := slrd_next RS bq
      replace RT := slrd_next RT bq
      clear bq KO
      clear ZC RS RT
      go_wp2
      go_ret
      exact ⟨rfl, b0⟩
    · have hlr : l < 0 ∨ 15 < l := by
        simp [betw] at hin
        omega
      clear hokb hin
      rcases hlr with hlr | hlr
      · obtain ⟨ZCc0, ZCc1⟩ := cells_two ZC
        have ZClt := ltR ZC
        go_wp2_with fail
        clear ZCc0 ZCc1 ZClt
        refine (KL.out _ RS RT).mono ?_
        rintro e v3 ⟨rfl, bq⟩
        replace b0 := below_step b0 bq
        replace ZC := row_keep bq ZC
        replace RS := slrd_next RS bq
        replace RT := slrd_next RT bq
        clear bq KL
        obtain ⟨ZCc0, ZCc1⟩ := cells_two ZC
        have ZClt := ltR ZC
        go_wp2_with fail
        clear ZCc0 ZCc1 ZClt
        refine (KM.out _ RS RT).mono ?_
        rintro e v4 ⟨rfl, bq⟩
        replace b0 := below_step b0 bq
        replace ZC := row_keep bq ZC
        replace RS := slrd_next RS bq
        replace RT := slrd_next RT bq
        clear bq KM
        obtain ⟨ZCc0, ZCc1⟩ := cells_two ZC
        have ZClt := ltR ZC
        go_wp2_with fail
        clear ZCc0 ZCc1 ZClt
        refine (KO.out _ RS RT).mono ?_
        rintro e v5 ⟨rfl, bq⟩
        replace b0 := below_step b0 bq
        replace ZC := row_keep bq ZC
        replace RS := slrd_next RS bq
        replace RT := slrd_next RT bq
        clear bq KO
        clear ZC RS RT
        go_wp2
        go_ret
        exact ⟨rfl, b0⟩
      · obtain ⟨ZCc0, ZCc1⟩ := cells_two ZC
        have ZClt := ltR ZC
        go_wp2_with fail
        clear ZCc0 ZCc1 ZClt
        refine (KL.out _ RS RT).mono ?_
        rintro e v3 ⟨rfl, bq⟩
        replace b0 := below_step b0 bq
        replace ZC := row_keep bq ZC
        replace RS := slrd_next RS bq
        replace RT := slrd_next RT bq
        clear bq KL
        obtain ⟨ZCc0, ZCc1⟩ := cells_two ZC
        have ZClt := ltR ZC
        go_wp2_with fail
        clear ZCc0 ZCc1 ZClt
        refine (KM.out _ RS RT).mono ?_
        rintro e v4 ⟨rfl, bq⟩
        replace b0 := below_step b0 bq
        replace ZC := row_keep bq ZC
        replace RS := slrd_next RS bq
        replace RT := slrd_next RT bq
        clear bq KM
        obtain ⟨ZCc0, ZCc1⟩ := cells_two ZC
        have ZClt := ltR ZC
        go_wp2_with fail
        clear ZCc0 ZCc1 ZClt
        refine (KO.out _ RS RT).mono ?_
        rintro e v5 ⟨rfl, bq⟩
        replace b0 := below_step b0 bq
        replace ZC := row_keep bq ZC
        replace RS := slrd_next RS bq
        replace RT := slrd_next RT bq
        clear bq KO
        clear ZC RS RT
        go_wp2
        go_ret
        exact ⟨rfl, b0⟩
  · have hin2 : okb = true ∧ 0 ≤ l ∧ l ≤ 15 := by
      simp [betw] at hin
      exact ⟨hin.1, hin.2.1, hin.2.2⟩
    obtain ⟨rfl, h0, h15⟩ := hin2
    have hokc := okB_iff.1 hokb
    have hl0 : ¬ (l < 0) := by omega
    have hl1 : ¬ (15 < l) := by omega
    clear hin hokb
    cases hp : putNo c l with
    | some i =>
      have hout1 : out = -1 := by rw [← hout]; exact leaves_room hp
      subst hout1
      have hf1 : (fillI c (l, 1, [1, 2])).2 = true := by rw [fill_at hokc (full_w h0 h15) hp]
      have KF : Hid (∀ (W : World) (gd : Nat), SlRd waysR W av c.1 → SlRd intR W bv c.2 → W.heap[gd]? = some (.cells #[.int .i64 1, .int .i64 2] 2 (0, 0)) → Calls Try.prog 9 #[.agg #[.slice av c.1.length cv, .slice bv c.2.length dv], .agg #[.int .i64 l, .int .i64 1, .slice (some ⟨gd, 0, none⟩) 2 2]] W fun e w' => ∃ p q r s n1 n2, e = .returned (.tuple #[.agg #[.slice p n1 q, .slice r n2 s], .bool true]) ∧ Below W.heap.size W w') := fun W gd h1 h2 hd => (implFilled_any av bv c cv dv l 1 [1, 2] (some ⟨gd, 0, none⟩) 2 W h1 h2 hm1 hm2 hm3 hl64 (small64 (by omega) (by omega)) (slrd_two hd) (by decide)).mono fun e w' ⟨p, q, r, s, he, mm⟩ => ⟨p, q, r, s, (fillI c (l, 1, [1, 2])).1.1.length, (fillI c (l, 1, [1, 2])).1.2.length, he.trans (by rw [hf1]), mm.2⟩
      clear hout hp hf1 hokc hsm hm1 hm2 hm3 hl64 h0 h15
      obtain ⟨ZCc0, ZCc1⟩ := cells_two ZC
      have ZClt := ltR ZC
      go_wp2_with fail
      clear ZCc0 ZCc1 ZClt
      refine (KL.out _ RS RT).mono ?_
      rintro e v3 ⟨rfl, bq⟩
      replace b0 := below_step b0 bq
      replace ZC := row_keep bq ZC
      replace RS := slrd_next RS bq
      replace RT := slrd_next RT bq
      clear bq KL
      obtain ⟨ZCc0, ZCc1⟩ := cells_two ZC
      have ZClt := ltR ZC
      go_wp2_with fail
      clear ZCc0 ZCc1 ZClt
      refine (KM.out _ RS RT).mono ?_
      rintro e v4 ⟨rfl, bq⟩
      replace b0 := below_step b0 bq
      replace ZC := row_keep bq ZC
      replace RS := slrd_next RS bq
      replace RT := slrd_next RT bq
      clear bq KM
      obtain ⟨ZCc0, ZCc1⟩ := cells_two ZC
      have ZClt := ltR ZC
      go_wp2_with fail
      clear ZCc0 ZCc1 ZClt
      refine (KO.out _ RS RT).mono ?_
      rintro e v5 ⟨rfl, bq⟩
      replace b0 := below_step b0 bq
      replace ZC := row_keep bq ZC
      replace RS := slrd_next RS bq
      replace RT := slrd_next RT bq
      clear bq KO
      go_upto_region 9 with fail
      go_upto_region 10 with fail
      have e6 : (v5.alloc (.cells #[.int .i64 1, .int .i64 2] 2)).heap.size = v5.heap.size + 1 := by simp
      have ZD := heap_at v5 (.cells #[.int .i64 1, .int .i64 2] 2)
      have bz := box_below v5 (.cells #[.int .i64 1, .int .i64 2] 2)
      replace b0 := below_step b0 bz
      replace ZC := row_keep bz ZC
      replace RS := slrd_next RS bz
      replace RT := slrd_next RT bz
      clear bz
      generalize v5.alloc (.cells #[.int .i64 1, .int .i64 2] 2) = v6 at b0 e6 ZC ZD RS RT ⊢
      have ZW := heap_at v6 (.cells #[.int .i64 l, .int .i64 1, .slice (some ⟨v5.heap.size, 0, none⟩) 2 2] 29)
      have bz := box_below v6 (.cells #[.int .i64 l, .int .i64 1, .slice (some ⟨v5.heap.size, 0, none⟩) 2 2] 29)
      replace b0 := below_step b0 bz
      replace ZC := row_keep bz ZC
      replace ZD := row_keep bz ZD
      replace RS := slrd_next RS bz
      replace RT := slrd_next RT bz
      clear bz
      generalize v6.alloc (.cells #[.int .i64 l, .int .i64 1, .slice (some ⟨v5.heap.size, 0, none⟩) 2 2] 29) = v7 at b0 ZC ZD ZW RS RT ⊢
      rw [e6] at ZW
      clear e6
      obtain ⟨ZCc0, ZCc1⟩ := cells_two ZC
      have ZClt := ltR ZC
      obtain ⟨ZDc0, ZDc1⟩ := cells_two ZD
      have ZDlt := ltR ZD
      obtain ⟨ZWc0, ZWc1, ZWc2⟩ := cells_three ZW
      have ZWlt := ltR ZW
      go_wp2_with fail
      clear ZCc0 ZCc1 ZClt ZDc0 ZDc1 ZDlt ZWc0 ZWc1 ZWc2 ZWlt
      refine (KF.out _ _ RS RT ZD).mono ?_
      rintro e v8 ⟨p, q, r, s, n1, n2, rfl, bq⟩
      replace b0 := below_step b0 bq
      replace ZC := row_keep bq ZC
      replace ZD := row_keep bq ZD
      replace ZW := row_keep bq ZW
      replace RS := slrd_next RS bq
      replace RT := slrd_next RT bq
      clear bq KF
      clear ZC ZD ZW RS RT
      go_wp2
      go_ret
      refine ⟨rfl, ?_⟩
      exact below_step b0 (box_below _ _)
    | none =>
      obtain ⟨out', e0, o0, o15, hne, hmod, hd2, hf2, hf1⟩ := leaves_facts hokc h0 h15 hp
      obtain rfl : out' = out := by rw [← e0, hout]
      have hokd := dropI_ok (line := out') hokc
      have hdm := small_ok hokd
      have hdl := drop_len out' hokc
      have KF : Hid (∀ (W : World) (gd : Nat), SlRd waysR W av c.1 → SlRd intR W bv c.2 → W.heap[gd]? = some (.cells #[.int .i64 1, .int .i64 2] 2 (0, 0)) → Calls Try.prog 9 #[.agg #[.slice av c.1.length cv, .slice bv c.2.length dv], .agg #[.int .i64 l, .int .i64 1, .slice (some ⟨gd, 0, none⟩) 2 2]] W fun e w' => ∃ p q r s n1 n2, e = .returned (.tuple #[.agg #[.slice p n1 q, .slice r n2 s], .bool false]) ∧ Below W.heap.size W w') := fun W gd h1 h2 hd => (implFilled_any av bv c cv dv l 1 [1, 2] (some ⟨gd, 0, none⟩) 2 W h1 h2 hm1 hm2 hm3 hl64 (small64 (by omega) (by omega)) (slrd_two hd) (by decide)).mono fun e w' ⟨p, q, r, s, he, mm⟩ => ⟨p, q, r, s, (fillI c (l, 1, [1, 2])).1.1.length, (fillI c (l, 1, [1, 2])).1.2.length, he.trans (by rw [hf1]), mm.2⟩
      have KD : Hid (∀ W, SlRd waysR W av c.1 → SlRd intR W bv c.2 → Calls Try.prog 11 #[.agg #[.slice av c.1.length cv, .slice bv c.2.length dv], .int .i64 out'] W fun e w' => ∃ p q r s, e = .returned (.tuple #[.agg #[.slice p (dropI c out').1.1.length q, .slice r (dropI c out').1.2.length s], .bool true]) ∧ MadeR cacheR W w' [.slice p (dropI c out').1.1.length q, .slice r (dropI c out').1.2.length s] (dropI c out').1) := fun W h1 h2 => by have := implDropped_any av bv c cv dv out' W h1 h2 hm1 hm2 hm3; rwa [hd2] at this
      generalize (dropI c out').1 = X at KD hf2 hokd hdm
      have hx1 : X.1.length ≤ maxLen := by have := hdm.1; unfold maxLen; omega
      have hx2 : X.2.length ≤ maxLen := by have := hdm.2.1; unfold maxLen; omega
      have hx3 : ∀ row ∈ X.1, row.length ≤ maxLen := fun row hrow => by have := hdm.2.2 row hrow; unfold maxLen; omega
      have KG : Hid (∀ (W : World) (gd : Nat) (p r : Option Addr) (q s : Nat), SlRd waysR W p X.1 → SlRd intR W r X.2 → W.heap[gd]? = some (.cells #[.int .i64 1, .int .i64 2] 2 (0, 0)) → Calls Try.prog 9 #[.agg #[.slice p X.1.length q, .slice r X.2.length s], .agg #[.int .i64 l, .int .i64 1, .slice (some ⟨gd, 0, none⟩) 2 2]] W fun e w' => ∃ p q r s n1 n2, e = .returned (.tuple #[.agg #[.slice p n1 q, .slice r n2 s], .bool true]) ∧ Below W.heap.size W w') := fun W gd p r q s h1 h2 hd => (implFilled_any p r X q s l 1 [1, 2] (some ⟨gd, 0, none⟩) 2 W h1 h2 hx1 hx2 hx3 hl64 (small64 (by omega) (by omega)) (slrd_two hd) (by decide)).mono fun e w' ⟨p, q, r, s, he, mm⟩ => ⟨p, q, r, s, (fillI X (l, 1, [1, 2])).1.1.length, (fillI X (l, 1, [1, 2])).1.2.length, he.trans (by rw [hf2]), mm.2⟩
      have ho0 : ¬ (out' < 0) := by omega
      have hnb : (out' != l) = true := by simp [hne]
      have hmz : ((out' - l).tmod (c.1.length : Int) == 0) = true := by simp [hmod]
      have hcp : 0 < c.1.length := by have := hokc.1; unfold pow3 at this; omega
      have hcz : ¬ ((c.1.length : Int) = 0) := by omega
      have hwr : IntKind.i64.wrap (out' - l) = out' - l := by rw [IntKind.wrap_i64]; omega
      clear hout hp hf1 hf2 hd2 hokc hokd hdm hdl hsm hm1 hm2 hm3 hl64 h0 h15 hx1 hx2 hx3 e0 o0 o15 hne hmod
      obtain ⟨ZCc0, ZCc1⟩ := cells_two ZC
      have ZClt := ltR ZC
      go_wp2_with fail
      clear ZCc0 ZCc1 ZClt
      refine (KL.out _ RS RT).mono ?_
      rintro e v3 ⟨rfl, bq⟩
      replace b0 := below_step b0 bq
      replace ZC := row_keep bq ZC
      replace RS := slrd_next RS bq
      replace RT := slrd_next RT bq
      clear bq KL
      obtain ⟨ZCc0, ZCc1⟩ := cells_two ZC
      have ZClt := ltR ZC
      go_wp2_with fail
      clear ZCc0 ZCc1 ZClt
      refine (KM.out _ RS RT).mono ?_
      rintro e v4 ⟨rfl, bq⟩
      replace b0 := below_step b0 bq
      replace ZC := row_keep bq ZC
      replace RS := slrd_next RS bq
      replace RT := slrd_next RT bq
      clear bq KM
      obtain ⟨ZCc0, ZCc1⟩ := cells_two ZC
      have ZClt := ltR ZC
      go_wp2_with fail
      clear ZCc0 ZCc1 ZClt
      refine (KO.out _ RS RT).mono ?_
      rintro e v5 ⟨rfl, bq⟩
      replace b0 := below_step b0 bq
      replace ZC := row_keep bq ZC
      replace RS := slrd_next RS bq
      replace RT := slrd_next RT bq
      clear bq KO
      go_upto_region 9 with fail
      go_upto_region 10 with fail
      have e6 : (v5.alloc (.cells #[.int .i64 1, .int .i64 2] 2)).heap.size = v5.heap.size + 1 := by simp
      have ZD := heap_at v5 (.cells #[.int .i64 1, .int .i64 2] 2)
      have bz := box_below v5 (.cells #[.int .i64 1, .int .i64 2] 2)
      replace b0 := below_step b0 bz
      replace ZC := row_keep bz ZC
      replace RS := slrd_next RS bz
      replace RT := slrd_next RT bz
      clear bz
      generalize v5.alloc (.cells #[.int .i64 1, .int .i64 2] 2) = v6 at b0 e6 ZC ZD RS RT ⊢
      have ZW := heap_at v6 (.cells #[.int .i64 l, .int .i64 1, .slice (some ⟨v5.heap.size, 0, none⟩) 2 2] 29)
      have bz := box_below v6 (.cells #[.int .i64 l, .int .i64 1, .slice (some ⟨v5.heap.size, 0, none⟩) 2 2] 29)
      replace b0 := below_step b0 bz
      replace ZC := row_keep bz ZC
      replace ZD := row_keep bz ZD
      replace RS := slrd_next RS bz
      replace RT := slrd_next RT bz
      clear bz
      generalize v6.alloc (.cells #[.int .i64 l, .int .i64 1, .slice (some ⟨v5.heap.size, 0, none⟩) 2 2] 29) = v7 at b0 ZC ZD ZW RS RT ⊢
      rw [e6] at ZW
      clear e6
      obtain ⟨ZCc0, ZCc1⟩ := cells_two ZC
      have ZClt := ltR ZC
      obtain ⟨ZDc0, ZDc1⟩ := cells_two ZD
      have ZDlt := ltR ZD
      obtain ⟨ZWc0, ZWc1, ZWc2⟩ := cells_three ZW
      have ZWlt := ltR ZW
      go_wp2_with fail
      clear ZCc0 ZCc1 ZClt ZDc0 ZDc1 ZDlt ZWc0 ZWc1 ZWc2 ZWlt
      refine (KF.out _ _ RS RT ZD).mono ?_
      rintro e v8 ⟨p, q, r, s, n1, n2, rfl, bq⟩
      replace b0 := below_step b0 bq
      replace ZC := row_keep bq ZC
      replace ZD := row_keep bq ZD
      replace ZW := row_keep bq ZW
      replace RS := slrd_next RS bq
      replace RT := slrd_next RT bq
      clear bq KF
      go_upto_region 11 with fail
      have ZY := heap_at v8 (.cells #[.slice p n1 q, .slice r n2 s] 27)
      have bz := box_below v8 (.cells #[.slice p n1 q, .slice r n2 s] 27)
      replace b0 := below_step b0 bz
      replace ZC := row_keep bz ZC
      replace ZD := row_keep bz ZD
      replace ZW := row_keep bz ZW
      replace RS := slrd_next RS bz
      replace RT := slrd_next RT bz
      clear bz
      generalize v8.alloc (.cells #[.slice p n1 q, .slice r n2 s] 27) = v9 at b0 ZC ZD ZW ZY RS RT ⊢
      clear ZY
      obtain ⟨ZCc0, ZCc1⟩ := cells_two ZC
      have ZClt := ltR ZC
      obtain ⟨ZDc0, ZDc1⟩ := cells_two ZD
      have ZDlt := ltR ZD
      obtain ⟨ZWc0, ZWc1, ZWc2⟩ := cells_three ZW
      have ZWlt := ltR ZW
      go_wp2_with fail
      clear ZCc0 ZCc1 ZClt ZDc0 ZDc1 ZDlt ZWc0 ZWc1 ZWc2 ZWlt
      refine (KD.out _ RS RT).mono ?_
      rintro e u1 ⟨p2, q2, r2, s2, rfl, mm⟩
      have bq := mm.2
      obtain ⟨y1, y2, S1, S2, ey, t1, t2, -⟩ := cache_own mm.1
      simp only [List.cons.injEq, and_true] at ey
      obtain ⟨rfl, rfl⟩ := ey
      have RX := sets_rd_at t1
      have RY := ints_rd t2
      clear t1 t2 mm
      replace b0 := below_step b0 bq
      replace ZC := row_keep bq ZC
      replace ZD := row_keep bq ZD
      replace ZW := row_keep bq ZW
      replace RS := slrd_next RS bq
      replace RT := slrd_next RT bq
      clear bq KD
      go_upto_region 14 with fail
      have ZX := heap_at u1 (.cells #[.slice p2 X.1.length q2, .slice r2 X.2.length s2] 27)
      have bz := box_below u1 (.cells #[.slice p2 X.1.length q2, .slice r2 X.2.length s2] 27)
      replace b0 := below_step b0 bz
      replace ZC := row_keep bz ZC
      replace ZD := row_keep bz ZD
      replace ZW := row_keep bz ZW
      replace RS := slrd_next RS bz
      replace RT := slrd_next RT bz
      replace RX := slrd_next RX bz
      replace RY := slrd_next RY bz
      clear bz
      generalize u1.alloc (.cells #[.slice p2 X.1.length q2, .slice r2 X.2.length s2] 27) = u2 at b0 ZC ZD ZW ZX RS RT RX RY ⊢
      obtain ⟨ZCc0, ZCc1⟩ := cells_two ZC
      have ZClt := ltR ZC
      obtain ⟨ZDc0, ZDc1⟩ := cells_two ZD
      have ZDlt := ltR ZD
      obtain ⟨ZWc0, ZWc1, ZWc2⟩ := cells_three ZW
      have ZWlt := ltR ZW
      obtain ⟨ZXc0, ZXc1⟩ := cells_two ZX
      have ZXlt := ltR ZX
      go_wp2_with fail
      clear ZCc0 ZCc1 ZClt ZDc0 ZDc1 ZDlt ZWc0 ZWc1 ZWc2 ZWlt ZXc0 ZXc1 ZXlt
      refine (KG.out _ _ _ _ _ _ RX RY ZD).mono ?_
      rintro e u3 ⟨p3, q3, r3, s3, n3, n4, rfl, bq⟩
      replace b0 := below_step b0 bq
      replace ZC := row_keep bq ZC
      replace ZD := row_keep bq ZD
      replace ZW := row_keep bq ZW
      replace ZX := row_keep bq ZX
      replace RS := slrd_next RS bq
      replace RT := slrd_next RT bq
      replace RX := slrd_next RX bq
      replace RY := slrd_next RY bq
      clear bq KG
      obtain ⟨ZCc0, ZCc1⟩ := cells_two ZC
      have ZClt := ltR ZC
      obtain ⟨ZDc0, ZDc1⟩ := cells_two ZD
      have ZDlt := ltR ZD
      obtain ⟨ZWc0, ZWc1, ZWc2⟩ := cells_three ZW
      have ZWlt := ltR ZW
      obtain ⟨ZXc0, ZXc1⟩ := cells_two ZX
      have ZXlt := ltR ZX
      go_wp2
      go_ret
      exact ⟨rfl, below_step b0 (box_below _ _)⟩
end Go.Proofs.Ytnalbbfilejokaa
