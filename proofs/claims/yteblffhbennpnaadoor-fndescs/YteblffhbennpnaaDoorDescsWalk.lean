
/- The law FnDescs returns true at every code of at most 4096 bytes, and nothing that was there turns. -/
import Derived.Test.YteblffhbennpnaaDoorDrawProg3
import Derived.Test.YteblffhbennpnaaDoorDescFacts
import Derived.Test.YteblffhbennpnaaDoorOwned
import Derived.Test.YteblffhbennpnaaDoorImpl11
import Derived.Test.YteblffhbennpnaaDoorImplWork
import Derived.Test.YteblffhbennpnaaDoorSkips
import Derived.Deep.QuietTactic
import Derived.Deep.Cut
import Derived.Deep.CutRange
import Derived.Deep.RegionHeld3
import Derived.Deep.RegionHeldLaw
namespace Go.Proofs.YteblffhbennpnaaDoor
open Go.ChangeShapes Go.WideShapes Go.ChangeAt Go.RowKit
set_option linter.unusedVariables false

set_option maxHeartbeats 16000000 in
set_option maxRecDepth 100000 in
theorem descs_law (a : Option Addr) (len cap : Nat) (zs : List Int) (w : World) (hr : Row8 w a len zs) (hs : len ≤ 4096) (hh : Hold w) :
    Calls Tryd.prog 3 #[.slice a len cap] w fun e w' => e = .returned (.bool true) ∧ Below w.heap.size w w' := by
  have hbig : decide ((4096 : Int) < len) = false := by simp; omega
  have b0 := Below.refl w.heap.size w
  go_enter Tryd.func3, Tryd.ntmps3
  go_wp2_with fail
  refine (big_any _ _ _ _).mono ?_
  rintro e w0 ⟨rfl, hw⟩
  rw [hw]
  clear hw w0
  rw [hbig]
  clear hbig
  have hmx : maxLen = 9223372036854775807 := rfl
  go_wp2_with fail
  refine (drawDescCode_any _ _ _ zs _ (row8_below hr b0)).mono ?_
  rintro e u1w ⟨cc, cs, cy, cl, xs, al, ql, rfl, hxl, -, RL, bq⟩
  replace b0 := below_step b0 bq
  clear bq
  obtain ⟨K, hK⟩ : ∃ K, descI cc cs cy cl xs = K := ⟨_, rfl⟩
  have KPi : Hid (∀ W, Below w.heap.size w W → SlRd descR W al xs → Calls Tryd.prog 8 #[.agg #[.int .i64 cc, .int .i64 cs, .int .i64 cy, .int .i64 cl], .slice al xs.length ql] W fun e w' => e = .returned (.int .i64 K) ∧ Below W.heap.size W w') := fun W hb h => by have := implDescCode_any cc cs cy cl al xs ql W (hh.to hb) h (by omega); rwa [hK] at this
  have KPs : Hid (∀ W, SlRd descR W al xs → Calls Tryd.prog 10 #[.agg #[.int .i64 cc, .int .i64 cs, .int .i64 cy, .int .i64 cl], .slice al xs.length ql] W fun e w' => e = .returned (.int .i64 K) ∧ Below W.heap.size W w') := fun W h => by have := specDescCode_any cc cs cy cl al xs ql W h (by omega); rwa [hK] at this
  have HK : Hid _ := hK
  have HH : Hid (∀ W, Below w.heap.size w W → Hold W) := fun W hb => hh.to hb
  clear hK hh
  go_upto_region 4 with fail
  have ZC := heap_at u1w (.cells #[.int .i64 cc, .int .i64 cs, .int .i64 cy, .int .i64 cl] 25)
  have bz := box_below u1w (.cells #[.int .i64 cc, .int .i64 cs, .int .i64 cy, .int .i64 cl] 25)
  replace b0 := below_step b0 bz
  replace RL := slrd_next RL bz
  clear bz
  generalize u1w.alloc (.cells #[.int .i64 cc, .int .i64 cs, .int .i64 cy, .int .i64 cl] 25) = u2w at b0 ZC RL ⊢
  obtain ⟨ZCc0, ZCc1, ZCc2, ZCc3⟩ := cells_4 ZC
  have ZClt := (Array.getElem?_eq_some_iff.1 ZC).1
  go_wp2_with fail
  clear ZCc0 ZCc1 ZCc2 ZCc3 ZClt
  refine (KPi.out _ b0 RL).mono ?_
  rintro e u3w ⟨rfl, bq⟩
  replace b0 := below_step b0 bq
  replace ZC := row_keep bq ZC
  replace RL := slrd_next RL bq
  clear bq KPi
  obtain ⟨ZCc0, ZCc1, ZCc2, ZCc3⟩ := cells_4 ZC
  have ZClt := (Array.getElem?_eq_some_iff.1 ZC).1
  go_wp2_with fail
  clear ZCc0 ZCc1 ZCc2 ZCc3 ZClt
  refine (drawWork_any _ _ _ zs _ (row8_below hr b0)).mono ?_
  rintro e u4w ⟨ps, ap, qp, ds, ad, qd, rfl, hpc, -, hpl, hp5, hdl, RP, RD, bq⟩
  replace b0 := below_step b0 bq
  replace ZC := row_keep bq ZC
  replace RL := slrd_next RL bq
  clear bq RD hr
  have hle := lens_small hp5
  generalize hnn : ps.length = n at hpl hpc hle ⊢
  obtain ⟨N, hN⟩ : ∃ N : Int, ((ds.length + lensI ps : Nat) : Int) = N := ⟨_, rfl⟩
  have KWi : Hid (∀ W, SlRd opsR W ap ps → Calls Tryd.prog 11 #[.slice ap n qp, .slice ad ds.length qd] W fun e w' => e = .returned (.int .i64 N) ∧ Below W.heap.size W w') := fun W h => by have := implWork_any ap ps qp ad ds.length qd W h (by omega) (by omega); rw [hN, hnn] at this; exact this
  have KWs : Hid (∀ W, SlRd opsR W ap ps → Calls Tryd.prog 12 #[.slice ap n qp, .slice ad ds.length qd] W fun e w' => e = .returned (.int .i64 N) ∧ Below W.heap.size W w') := fun W h => by have := specWork_any ap ps qp ad ds.length qd W h (by omega) (by omega); rw [hN, hnn] at this; exact this.mono fun e w' ⟨h1, h2⟩ => ⟨h1, by rw [h2]; exact Below.refl _ _⟩
  have HN : Hid _ := hN
  clear hN
  obtain ⟨ZCc0, ZCc1, ZCc2, ZCc3⟩ := cells_4 ZC
  have ZClt := (Array.getElem?_eq_some_iff.1 ZC).1
  go_wp2_with fail
  clear ZCc0 ZCc1 ZCc2 ZCc3 ZClt
  refine (KPs.out _ RL).mono ?_
  rintro e u5w ⟨rfl, bq⟩
  replace b0 := below_step b0 bq
  replace ZC := row_keep bq ZC
  replace RL := slrd_next RL bq
  replace RP := slrd_next RP bq
  clear bq KPs
  obtain ⟨ZCc0, ZCc1, ZCc2, ZCc3⟩ := cells_4 ZC
  have ZClt := (Array.getElem?_eq_some_iff.1 ZC).1
  go_wp2_with fail
  clear ZCc0 ZCc1 ZCc2 ZCc3 ZClt
  refine (KWi.out _ RP).mono ?_
  rintro e u6w ⟨rfl, bq⟩
  replace b0 := below_step b0 bq
  replace ZC := row_keep bq ZC
  replace RL := slrd_next RL bq
  replace RP := slrd_next RP bq
  clear bq
  obtain ⟨ZCc0, ZCc1, ZCc2, ZCc3⟩ := cells_4 ZC
  have ZClt := (Array.getElem?_eq_some_iff.1 ZC).1
  go_wp2_with fail
  clear ZCc0 ZCc1 ZCc2 ZCc3 ZClt
  refine (KWs.out _ RP).mono ?_
  rintro e u7w ⟨rfl, bq⟩
  replace b0 := below_step b0 bq
  replace ZC := row_keep bq ZC
  replace RL := slrd_next RL bq
  replace RP := slrd_next RP bq
  clear bq KWs
  obtain ⟨ZCc0, ZCc1, ZCc2, ZCc3⟩ := cells_4 ZC
  have ZClt := (Array.getElem?_eq_some_iff.1 ZC).1
  go_wp2_with fail
  clear ZCc0 ZCc1 ZCc2 ZCc3 ZClt
  refine (KWi.out _ RP).mono ?_
  rintro e u8w ⟨rfl, bq⟩
  replace b0 := below_step b0 bq
  replace ZC := row_keep bq ZC
  replace RL := slrd_next RL bq
  replace RP := slrd_next RP bq
  clear bq KWi
  go_upto_region 9 with fail
  go_cut [64] from 42 to 64 (fun t wx => t = .bool false ∧ Below u8w.heap.size u8w wx)
  case first =>
    have HP : Hid _ := RP
    clear b0 ZC RL RP HK
    have KW0 : Hid (∀ W, Calls Tryd.prog 11 #[.slice none 0 0, .slice ad ds.length qd] W fun e w' => e = .returned (.int .i64 (ds.length : Int)) ∧ Below W.heap.size W w') := fun W => implWork_any none [] 0 ad ds.length qd W (.inl rfl) (by simp [lensI]; omega) (by simp)
    cases ps with
    | nil =>
      simp only [List.length_nil] at hnn
      subst hnn
      go_wp2_with fail
      refine region_class (fun wx => Below u8w.heap.size u8w wx) (by kernel_rfl) (by kernel_rfl) ((Below.refl _ u8w).drew) ?_
      intro hne
      iterate 3 quiet_step (fail)
      refine wpQuiet_step (fun K hK => ?_)
      go_simp
      refine hid_act K _ ?_
      intro Aq hAq
      refine hK Aq ?_
      clear hK K
      have htq : Aq.tmps[45]? = some (.bool false) := by rw [hAq]; rfl
      refine wpQuiet_skip (b := true) (d := 45) htq rfl rfl rfl (by decide) ?_
      intro Sq0 eSq0 hSq0
      clear htq
      refine wpQuiet_skip (b := true) (d := 45) hSq0 rfl rfl rfl (by decide) ?_
      intro Sq1 eSq1 hSq1
      clear hSq0
      refine wpQuiet_skip (b := true) (d := 45) hSq1 rfl rfl rfl (by decide) ?_
      intro Sq2 eSq2 hSq2
      clear hSq1
      refine wpQuiet_skip (b := true) (d := 45) hSq2 rfl rfl rfl (by decide) ?_
      intro Sq3 eSq3 hSq3
      clear hSq2
      refine wpQuiet_skip (b := true) (d := 45) hSq3 rfl rfl rfl (by decide) ?_
      intro Sq4 eSq4 hSq4
      clear hSq3
      refine wpQuiet_skip (b := true) (d := 45) hSq4 rfl rfl rfl (by decide) ?_
      intro Sq5 eSq5 hSq5
      clear hSq4
      refine wpQuiet_skip (b := true) (d := 45) hSq5 rfl rfl rfl (by decide) ?_
      intro Sq6 eSq6 hSq6
      clear hSq5
      refine wpQuiet_skip (b := true) (d := 45) hSq6 rfl rfl rfl (by decide) ?_
      intro Sq7 eSq7 hSq7
      clear hSq6
      refine wpQuiet_skip (b := true) (d := 45) hSq7 rfl rfl rfl (by decide) ?_
      intro Sq8 eSq8 hSq8
      clear hSq7
      refine wpQuiet_skip (b := true) (d := 45) hSq8 rfl rfl rfl (by decide) ?_
      intro Sq9 eSq9 hSq9
      clear hSq8
      refine wpQuiet_skip (b := true) (d := 45) hSq9 rfl rfl rfl (by decide) ?_
      intro Sq10 eSq10 hSq10
      clear hSq9
      clear hSq10
      subst eSq10 eSq9 eSq8 eSq7 eSq6 eSq5 eSq4 eSq3 eSq2 eSq1 eSq0
      subst hAq
      repeat (quiet_step ((go_at_call 11; exact calls_class (KW0.out _) (fun w' hc bb => below_step hc bb))))
      refine wpQuiet_nil ?_
      intro wx b2
      clear hne 
      go_wp2_with fail
      go_meet
      exact ⟨rfl, b2⟩
    | cons p r =>
      obtain ⟨b, off, cs9, rfl, hrd, hc9⟩ := slrd_at HP.out (j := 0) (x := p) rfl
      have HD : Hid (SlRd opsR _ (some ⟨b, off + 1, none⟩) r) := slrd_tail HP.out
      obtain ⟨pa, pc, rfl⟩ := ops_val hrd
      have hc0 := hc9 0 _ rfl
      simp only [Nat.zero_mul, Nat.add_zero] at hc0
      have hp1 := hp5 p (List.mem_cons_self ..)
      have hsm : lensI (p :: r) = p.length + lensI r := by simp [lensI]
      obtain ⟨N1, hN1⟩ : ∃ N1 : Int, ((ds.length + lensI r : Nat) : Int) = N1 := ⟨_, rfl⟩
      simp only [List.length_cons] at hnn
      have hrn : r.length = n - 1 := by omega
      have hr4 : r.length ≤ 4 := by omega
      have KW1 : Hid (∀ av cv W, SlRd opsR W av r → Calls Tryd.prog 11 #[.slice av (n - 1) cv, .slice ad ds.length qd] W fun e w' => e = .returned (.int .i64 N1) ∧ Below W.heap.size W w') := fun av cv W h => by have := implWork_any av r cv ad ds.length qd W h (by omega) (by omega); rwa [hN1, hrn] at this
      have hN := HN.out
      rw [hsm] at hN
      have hsum : N1 + (p.length : Int) = N := by omega
      have hwr : IntKind.i64.wrap N = N := by rw [IntKind.wrap_i64]; omega
      have d0 : ∀ m : Cls (fun wx => Below u8w.heap.size u8w wx), m.w.cell? ⟨b, off, none⟩ = some (.slice pa p.length pc) := fun m => cell_keep m.h hc0 (cell_lt hc0)
      have hk0 : ¬ (n = 0) := by omega
      have hk1 : 1 ≤ n := by omega
      have hk2 : (1 : Int) ≤ (n : Int) := by omega
      have hk3 : 1 ≤ qp := by omega
      have hk4 : (1 : Int) ≤ (qp : Int) := by omega
      have hk5 : (n : Int) ≤ (qp : Int) := by omega
      have hk6 : 0 < n := by omega
      clear hN hN1 hsm hp1 hrd hc9 hp5 HN hle hc0 hr4
      by_cases hq2 : qp = 1
      · skip
        have hn1 : n = 1 := by omega
        have hr0 : r = [] := List.eq_nil_of_length_eq_zero (by omega)
        subst hr0
        subst hq2
        subst hn1
        clear hk0 hk1 hk2 hk3 hk4 hk5 hk6 hrn hnn hpl hpc HD
        simp only [Nat.sub_self] at KW1
        have KWc : Hid (∀ m : Cls (fun wx => Below u8w.heap.size u8w wx), Calls Tryd.prog 11 #[.slice (some ⟨b, off, none⟩) 0 0, .slice ad ds.length qd] m.w fun e w' => e = .returned (.int .i64 N1) ∧ Below m.w.heap.size m.w w') := fun m => KW1.out _ _ m.w (.inl rfl)
        go_wp2_with fail
        refine region_class (fun wx => Below u8w.heap.size u8w wx) (by kernel_rfl) (by kernel_rfl) ((Below.refl _ u8w).drew) ?_
        intro hne
        repeat (quiet_step ((first | (go_at_call_of 11 b; exact calls_class (KWc.out _) (fun w' hc bb => below_step hc bb)) | (go_at_call 11; exact calls_class (KW0.out _) (fun w' hc bb => below_step hc bb)))))
        refine wpQuiet_nil ?_
        intro wx b2
        clear hne d0
        go_wp2_with fail
        go_meet
        exact ⟨rfl, b2⟩
      · skip
        have KWc : Hid (∀ m : Cls (fun wx => Below u8w.heap.size u8w wx), Calls Tryd.prog 11 #[.slice (some ⟨b, off + 1, none⟩) (n - 1) (qp - 1), .slice ad ds.length qd] m.w fun e w' => e = .returned (.int .i64 N1) ∧ Below m.w.heap.size m.w w') := fun m => KW1.out _ _ m.w (slrd_next HD.out m.h)
        go_wp2_with fail
        refine region_class (fun wx => Below u8w.heap.size u8w wx) (by kernel_rfl) (by kernel_rfl) ((Below.refl _ u8w).drew) ?_
        intro hne
        repeat (quiet_step ((first | (go_at_call_of 11 b; exact calls_class (KWc.out _) (fun w' hc bb => below_step hc bb)) | (go_at_call 11; exact calls_class (KW0.out _) (fun w' hc bb => below_step hc bb)))))
        refine wpQuiet_nil ?_
        intro wx b2
        clear hne d0
        go_wp2_with fail
        go_meet
        exact ⟨rfl, b2⟩
  case rest =>
    obtain ⟨rfl, bq⟩ := hcut
    obtain ⟨u9w, hwn⟩ : ∃ x, x = wc := ⟨_, rfl⟩
    subst hwn
    clear RP
    replace b0 := below_step b0 bq
    replace ZC := row_keep bq ZC
    replace RL := slrd_next RL bq
    clear bq HN hle hp5 hpl hpc hdl hnn
    have hK := HK.out
    clear HK
    unfold descI at hK
    by_cases hcf : codeI cc cs cy cl = 0
    · rw [if_pos hcf] at hK
      by_cases hn : xs.length ≤ 30
      · rw [if_pos hn] at hK
        cases hA : xs.all descB
        · rw [hA] at hK
          have hK3 : K = 5 := by rw [← hK]; rfl
          subst hK3
          clear hK RL ZC hcf hA
          go_wp2
          go_ret
          exact ⟨rfl, b0⟩
        · rw [hA, if_pos rfl] at hK
          cases hB : xs.all (dlnOk cl)
          · rw [hB] at hK
            have hK3 : K = 4 := by rw [← hK]; rfl
            subst hK3
            clear hK RL ZC hcf hA hB
            go_wp2
            go_ret
            exact ⟨rfl, b0⟩
          · rw [hB] at hK
            have hK3 : K = 0 := by rw [← hK]; rfl
            subst hK3
            clear hK
            have hn' : (xs.length : Int) ≤ 30 := by omega
            rw [List.all_eq_true] at hA hB
            have HX : Hid _ := And.intro b0 (And.intro ZC RL)
            have HAB : Hid _ := And.intro hA hB
            have HCF : Hid _ := hcf
            clear b0 ZC RL hA hB hcf
            go_wp2
            go_loopw [9] (fun i wr => ∃ k : Nat, k ≤ xs.length ∧ i = .int .i64 k ∧ Below u9w.heap.size u9w wr) (fun i _ => xs.length - (intOf i).toNat)
            case atStart => exact ⟨0, Nat.zero_le _, rfl, Below.refl _ _⟩
            case round =>
              obtain ⟨k, hk, rfl, BB⟩ := hrel
              by_cases hlt : k < xs.length
              · skip
                have hlt' : (k : Int) < (xs.length : Int) := by omega
                obtain ⟨x, hx⟩ : ∃ x, xs[k]? = some x := ⟨_, List.getElem?_eq_getElem hlt⟩
                have hmem := List.mem_of_getElem? hx
                have hb1 := HAB.out.1 x hmem
                have hb2 := HAB.out.2 x hmem
                obtain ⟨b, off, cs9, rfl, hrd, hc9⟩ := slrd_at (slrd_next HX.out.2.2 BB) hx
                obtain ⟨pa, pc, rfl, -, -, -, -, hs9⟩ := desc_rd hrd
                have y0 : wr.cell? ⟨b, off + k * 4, none⟩ = some (.bool x.1) := hc9 0 _ rfl
                have y1 : wr.cell? ⟨b, off + k * 4 + 1, none⟩ = some (.int .i64 x.2.1) := hc9 1 _ rfl
                have y3 : wr.cell? ⟨b, off + k * 4 + 3, none⟩ = some (.slice pa x.2.2.2.length pc) := hc9 3 _ rfl
                obtain ⟨Zc0, Zc1, Zc2, Zc3⟩ := cells_4 (row_keep BB HX.out.2.1)
                obtain ⟨x0, x1, x2, x3⟩ := x
                simp only at y0 y1 y3 hs9
                simp [dlnOk, betw] at hb2
                have hl1 : ¬ (x1 < 0) := by omega
                have hl2 : ¬ (cl ≤ x1) := by omega
                clear hb2 hx hmem hc9 hrd HAB HX HCF
                cases x0
                · simp [descB] at hb1
                  obtain ⟨hb0, hbd⟩ := hb1
                  subst hbd
                  clear hb0 hs9 Zc0 Zc1 Zc2
                  simp only [List.length_nil] at y3
                  have dy0 : ∀ m : Cls (fun wx => Below wr.heap.size wr wx), m.w.cell? ⟨b, off + k * 4, none⟩ = some (.bool false) := fun m => cell_keep m.h y0 (cell_lt y0)
                  have dy1 : ∀ m : Cls (fun wx => Below wr.heap.size wr wx), m.w.cell? ⟨b, off + k * 4 + 1, none⟩ = some (.int .i64 x1) := fun m => cell_keep m.h y1 (cell_lt y1)
                  have dy3 : ∀ m : Cls (fun wx => Below wr.heap.size wr wx), m.w.cell? ⟨b, off + k * 4 + 3, none⟩ = some (.slice pa 0 pc) := fun m => cell_keep m.h y3 (cell_lt y3)
                  have dZc3 : ∀ m : Cls (fun wx => Below wr.heap.size wr wx), m.w.cell? ⟨u1w.heap.size, 3, none⟩ = some (.int .i64 cl) := fun m => cell_keep m.h Zc3 (cell_lt Zc3)
                  go_wp2_with fail
                  clear y0 y1 y3 Zc3
                  refine region_class (fun wx => Below wr.heap.size wr wx) (by kernel_rfl) (by kernel_rfl) ((Below.refl _ wr).drew) ?_
                  intro hne
                  iterate 22 quiet_step (fail)
                  refine wpQuiet_step (fun K hK => ?_)
                  go_simp
                  refine hid_act K _ ?_
                  intro Aq hAq
                  refine hK Aq ?_
                  clear hK K
                  have htq : Aq.tmps[119]? = some (.bool false) := by rw [hAq]; rfl
                  refine wpQuiet_skips (j := 22) (b := true) (d := 119) rfl rfl 7 _ _ htq (by rfl) ?_
                  clear htq
                  rewrite [hAq]
                  clear hAq Aq
                  simp only [List.take_succ_cons, List.take_zero, List.drop_succ_cons, List.drop_zero, putAll, List.foldl_cons, List.foldl_nil]
                  go_simp
                  repeat (quiet_step (fail))
                  refine wpQuiet_nil ?_
                  intro wx b2
                  clear hne dy0 dy1 dy3 dZc3
                  go_wp2
                  go_roundw
                  case rel => exact ⟨k + 1, by omega, by go_num, below_step BB b2⟩
                  case measure => simp [intOf]; omega
                · simp [descB] at hb1
                  have KL : Hid (∀ m : Cls (fun wx => Below wr.heap.size wr wx), Calls Tryd.prog 14 #[.slice pa x3.length pc] m.w fun e w' => e = .returned (.bool true) ∧ w' = m.w) := fun m => by have := specLineOk_any pa x3 pc m.w (reads_of (slrd_next hs9 m.h)); rwa [hb1.2] at this
                  clear hb1 hs9 Zc0 Zc1 Zc2
                  have dy0 : ∀ m : Cls (fun wx => Below wr.heap.size wr wx), m.w.cell? ⟨b, off + k * 4, none⟩ = some (.bool true) := fun m => cell_keep m.h y0 (cell_lt y0)
                  have dy1 : ∀ m : Cls (fun wx => Below wr.heap.size wr wx), m.w.cell? ⟨b, off + k * 4 + 1, none⟩ = some (.int .i64 x1) := fun m => cell_keep m.h y1 (cell_lt y1)
                  have dy3 : ∀ m : Cls (fun wx => Below wr.heap.size wr wx), m.w.cell? ⟨b, off + k * 4 + 3, none⟩ = some (.slice pa x3.length pc) := fun m => cell_keep m.h y3 (cell_lt y3)
                  have dZc3 : ∀ m : Cls (fun wx => Below wr.heap.size wr wx), m.w.cell? ⟨u1w.heap.size, 3, none⟩ = some (.int .i64 cl) := fun m => cell_keep m.h Zc3 (cell_lt Zc3)
                  go_wp2_with fail
                  clear y0 y1 y3 Zc3
                  refine region_class (fun wx => Below wr.heap.size wr wx) (by kernel_rfl) (by kernel_rfl) ((Below.refl _ wr).drew) ?_
                  intro hne
                  iterate 39 quiet_step ((go_at_call 14; exact calls_class_same (KL.out _)))
                  refine wpQuiet_step (fun K hK => ?_)
                  go_simp
                  refine hid_act K _ ?_
                  intro Aq hAq
                  refine hK Aq ?_
                  clear hK K
                  have htq : Aq.tmps[136]? = some (.bool false) := by rw [hAq]; rfl
                  refine wpQuiet_skips (j := 39) (b := true) (d := 136) rfl rfl 7 _ _ htq (by rfl) ?_
                  clear htq
                  rewrite [hAq]
                  clear hAq Aq
                  simp only [List.take_succ_cons, List.take_zero, List.drop_succ_cons, List.drop_zero, putAll, List.foldl_cons, List.foldl_nil]
                  go_simp
                  repeat (quiet_step ((go_at_call 14; exact calls_class_same (KL.out _))))
                  refine wpQuiet_nil ?_
                  intro wx b2
                  clear hne dy0 dy1 dy3 dZc3
                  go_wp2
                  go_roundw
                  case rel => exact ⟨k + 1, by omega, by go_num, below_step BB b2⟩
                  case measure => simp [intOf]; omega
              · skip
                have hkl : k = xs.length := by omega
                subst hkl
                obtain ⟨b0, ZC, RL⟩ := HX.out
                replace b0 := below_step b0 BB
                replace ZC := row_keep BB ZC
                replace RL := slrd_next RL BB
                clear HX BB hlt hk
                have hnew : Hid (descI cc cs cy cl (xs ++ [(false, cl, 0, ([] : List Int))]) = if xs.length = 30 then 2 else 4) := desc_push HCF.out hn HAB.out.1
                obtain ⟨K2, hK2⟩ : ∃ K2, descI cc cs cy cl (xs ++ [(false, cl, 0, ([] : List Int))]) = K2 := ⟨_, rfl⟩
                rw [hK2] at hnew
                have KD : Hid (∀ g c W, Below wr.heap.size wr W → SlRd descR W (some ⟨g, 0, none⟩) (xs ++ [(false, cl, 0, ([] : List Int))]) → Calls Tryd.prog 8 #[.agg #[.int .i64 cc, .int .i64 cs, .int .i64 cy, .int .i64 cl], .slice (some ⟨g, 0, none⟩) (xs.length + 1) c] W fun e w' => e = .returned (.int .i64 K2) ∧ Below W.heap.size W w') := fun g c W hb h => by have := implDescCode_any cc cs cy cl (some ⟨g, 0, none⟩) (xs ++ [(false, cl, 0, ([] : List Int))]) c W (HH.out _ (below_step b0 hb)) h (by simp; omega); rw [hK2] at this; simpa using this
                have hcl64 : In64 cl := code_in HCF.out
                obtain ⟨i0, hi, hz0, hz1, hz2⟩ := info_parts Tryd.infoDescD
                clear hK2 HAB HCF
                have HZ : Hid _ := ZC
                clear ZC
                go_upto_region 18 with fail
                have B1 : Below wr.heap.size wr wr.drew := (Below.refl _ _).drew
                cases al with
                | none =>
                  have hx0 : xs = [] := slrd_nil RL
                  subst hx0
                  have hK2 : K2 = 4 := hnew.out
                  subst hK2
                  clear RL hnew
                  simp only [List.length_nil, List.nil_append, Nat.zero_add] at KD ⊢
                  have HL : Hid (∀ W, lrd descR W ([] ++ [.bool false, .int .i64 cl, .int .i64 0, .slice none 0 0]) [(false, cl, 0, ([] : List Int))]) := fun W => lrd_more (R := descR) (xs := []) (cs := []) rfl (rd_new hcl64 W)
                  obtain ⟨Zc0, Zc1, Zc2, Zc3⟩ := cells_4 (row_keep B1 HZ.out); have Zlt := (Array.getElem?_eq_some_iff.1 (row_keep B1 HZ.out)).1
                  first | (go_region_held_law (fun wx => wx.cell? ⟨u1w.heap.size, 0, none⟩ = some (.int .i64 cc) ∧ wx.cell? ⟨u1w.heap.size, 1, none⟩ = some (.int .i64 cs) ∧ wx.cell? ⟨u1w.heap.size, 2, none⟩ = some (.int .i64 cy) ∧ wx.cell? ⟨u1w.heap.size, 3, none⟩ = some (.int .i64 cl)) (refine ⟨?_, ?_, ?_, ?_⟩ <;> (repeat (first | exact Zc0 | exact Zc1 | exact Zc2 | exact Zc3 | refine kp_drew ?_ | refine kp_alloc ?_))) (first | (refine step_spread_none rfl _ _ 26 rfl wr 38 i0 4 Tryd.underlying26 hi (.slice (some ⟨_, 0, none⟩) 0 0) 0 [] rfl ql rfl (by first | exact sp_new B1 | exact sp_alloc (sp_new B1) (.cells #[.bool false, .int .i64 cl, .int .i64 0, .slice none 0 0] 38) | exact sp_new2 B1 (.cells #[.bool false, .int .i64 cl, .int .i64 0, .slice none 0 0] 38) rfl) ?_) | (refine step_spread rfl _ _ 26 rfl wr 38 i0 (.agg #[.bool false, .int .i64 0, .int .i64 0, .slice none 0 0]) 4 48 Tryd.underlying26 hi hz0 hz1 hz2 rfl (by decide) (.slice (some ⟨_, 0, none⟩) 0 0) 0 [] rfl ⟨_, 0, none⟩ 1 1 [.bool false, .int .i64 cl, .int .i64 0, .slice none 0 0] rfl (by first | exact sp_new B1 | exact sp_alloc (sp_new B1) (.cells #[.bool false, .int .i64 cl, .int .i64 0, .slice none 0 0] 38) | exact sp_new2 B1 (.cells #[.bool false, .int .i64 cl, .int .i64 0, .slice none 0 0] 38) rfl) (by simp) rfl (fun _ => by first | exact news2 (w := wr.drew) (cs := [.bool false, .int .i64 cl, .int .i64 0, .slice none 0 0]) (t := 38) (.cells #[] 38) rfl | exact lay_past (w := wr.drew) (cs := [.bool false, .int .i64 cl, .int .i64 0, .slice none 0 0]) (t := 38) (.cells #[] 38)) (by simp [Value.oneCell']) 1 rfl (by omega) (by omega) ?_; intro g2 c2 wB SB GB; clear Zc0 Zc1 Zc2 Zc3 Zlt; obtain ⟨Zc0, Zc1, Zc2, Zc3⟩ := cells_4 (row_keep SB.bel HZ.out); have Zlt := (Array.getElem?_eq_some_iff.1 (row_keep SB.bel HZ.out)).1) | (go_at_call 8; refine (KD.out _ _ _ SB.bel (sp_rd SB (HL.out _))).mono ?_; rintro e wC ⟨rfl, bm⟩; have B2 := below_step SB.bel bm; clear bm SB  GB; clear Zc0 Zc1 Zc2 Zc3 Zlt; obtain ⟨Zc0, Zc1, Zc2, Zc3⟩ := cells_4 (row_keep B2 HZ.out); have Zlt := (Array.getElem?_eq_some_iff.1 (row_keep B2 HZ.out)).1))) | fail
                  all_goals go_wp2_with fail
                  all_goals go_ret
                  all_goals exact ⟨rfl, below_step b0 B2⟩
                | some ad9 =>
                  obtain ⟨rows, hrr, hrc⟩ := slrd_rows RL
                  have hrl := lrd_len hrr
                  simp only [show descR.size = 4 from rfl] at hrl
                  have HL : Hid (∀ W, Below wr.heap.size wr W → lrd descR W (rows ++ [.bool false, .int .i64 cl, .int .i64 0, .slice none 0 0]) (xs ++ [(false, cl, 0, ([] : List Int))])) := fun W hb => lrd_more (lrd_keep hrr fun k hk => hb.block k hk) (rd_new hcl64 W)
                  have hone := lrd_one hrr
                  have HR : Hid (∀ W, Below wr.heap.size wr W → ∀ j u, rows[j]? = some u → W.cell? (ad9.add j) = some u) := fun W hb j u hj => add_keep hb (hrc j u hj)
                  clear hrr hrc RL
                  by_cases h30 : xs.length = 30
                  · skip
                    have hK2 : K2 = 2 := by rw [hnew.out, if_pos h30]
                    subst hK2
                    have h30' : (xs.length : Int) = 30 := by omega
                    clear h30 hnew
                    obtain ⟨Zc0, Zc1, Zc2, Zc3⟩ := cells_4 (row_keep B1 HZ.out); have Zlt := (Array.getElem?_eq_some_iff.1 (row_keep B1 HZ.out)).1
                    first | (go_region_held_law (fun wx => wx.cell? ⟨u1w.heap.size, 0, none⟩ = some (.int .i64 cc) ∧ wx.cell? ⟨u1w.heap.size, 1, none⟩ = some (.int .i64 cs) ∧ wx.cell? ⟨u1w.heap.size, 2, none⟩ = some (.int .i64 cy) ∧ wx.cell? ⟨u1w.heap.size, 3, none⟩ = some (.int .i64 cl)) (refine ⟨?_, ?_, ?_, ?_⟩ <;> (repeat (first | exact Zc0 | exact Zc1 | exact Zc2 | exact Zc3 | refine kp_drew ?_ | refine kp_alloc ?_))) (first | (refine step_spread rfl _ _ 26 rfl wr 38 i0 (.agg #[.bool false, .int .i64 0, .int .i64 0, .slice none 0 0]) 4 48 Tryd.underlying26 hi hz0 hz1 hz2 rfl (by decide) (.slice (some ⟨_, 0, none⟩) 0 0) 0 [] rfl ad9 xs.length ql rows rfl (by first | exact sp_new B1 | exact sp_alloc (sp_new B1) (.cells #[.bool false, .int .i64 cl, .int .i64 0, .slice none 0 0] 38) | exact sp_new2 B1 (.cells #[.bool false, .int .i64 cl, .int .i64 0, .slice none 0 0] 38) rfl) (by simp) hrl (fun b => HR.out _ b) hone xs.length (Nat.zero_add _) (by omega) (by omega) ?_; intro g1 c1 wA SA GA; rw [List.nil_append] at SA; clear Zc0 Zc1 Zc2 Zc3 Zlt; obtain ⟨Zc0, Zc1, Zc2, Zc3⟩ := cells_4 (row_keep SA.bel HZ.out); have Zlt := (Array.getElem?_eq_some_iff.1 (row_keep SA.bel HZ.out)).1) | (refine step_spread rfl _ _ 26 rfl wr 38 i0 (.agg #[.bool false, .int .i64 0, .int .i64 0, .slice none 0 0]) 4 48 Tryd.underlying26 hi hz0 hz1 hz2 rfl (by decide) (.slice (some ⟨g1, 0, none⟩) xs.length c1) xs.length rows rfl ⟨_, 0, none⟩ 1 1 [.bool false, .int .i64 cl, .int .i64 0, .slice none 0 0] rfl (by first | exact SA | exact sp_alloc SA _) (by simp) rfl (fun _ => by first | exact cells_news _ _ _ | exact lay_two (w := wr.drew) (o := .cells #[] 38) (cs := [.bool false, .int .i64 cl, .int .i64 0, .slice none 0 0]) (t := 38) GA | exact lay_three (w := wr.drew) (o := .cells #[] 38) (cs := [.bool false, .int .i64 cl, .int .i64 0, .slice none 0 0]) (t := 38) GA) (by simp [Value.oneCell']) (xs.length + 1) rfl (by omega) (by omega) ?_; intro g2 c2 wB SB GB; clear Zc0 Zc1 Zc2 Zc3 Zlt; obtain ⟨Zc0, Zc1, Zc2, Zc3⟩ := cells_4 (row_keep SB.bel HZ.out); have Zlt := (Array.getElem?_eq_some_iff.1 (row_keep SB.bel HZ.out)).1) | (go_at_call 8; refine (KD.out _ _ _ SB.bel (sp_rd SB (HL.out _ SB.bel))).mono ?_; rintro e wC ⟨rfl, bm⟩; have B2 := below_step SB.bel bm; clear bm SB GA SA GB; clear Zc0 Zc1 Zc2 Zc3 Zlt; obtain ⟨Zc0, Zc1, Zc2, Zc3⟩ := cells_4 (row_keep B2 HZ.out); have Zlt := (Array.getElem?_eq_some_iff.1 (row_keep B2 HZ.out)).1))) | fail
                    all_goals go_wp2_with fail
                    all_goals go_ret
                    all_goals exact ⟨rfl, below_step b0 B2⟩
                  · skip
                    have hK2 : K2 = 4 := by rw [hnew.out, if_neg h30]
                    subst hK2
                    clear h30 hnew
                    obtain ⟨Zc0, Zc1, Zc2, Zc3⟩ := cells_4 (row_keep B1 HZ.out); have Zlt := (Array.getElem?_eq_some_iff.1 (row_keep B1 HZ.out)).1
                    first | (go_region_held_law (fun wx => wx.cell? ⟨u1w.heap.size, 0, none⟩ = some (.int .i64 cc) ∧ wx.cell? ⟨u1w.heap.size, 1, none⟩ = some (.int .i64 cs) ∧ wx.cell? ⟨u1w.heap.size, 2, none⟩ = some (.int .i64 cy) ∧ wx.cell? ⟨u1w.heap.size, 3, none⟩ = some (.int .i64 cl)) (refine ⟨?_, ?_, ?_, ?_⟩ <;> (repeat (first | exact Zc0 | exact Zc1 | exact Zc2 | exact Zc3 | refine kp_drew ?_ | refine kp_alloc ?_))) (first | (refine step_spread rfl _ _ 26 rfl wr 38 i0 (.agg #[.bool false, .int .i64 0, .int .i64 0, .slice none 0 0]) 4 48 Tryd.underlying26 hi hz0 hz1 hz2 rfl (by decide) (.slice (some ⟨_, 0, none⟩) 0 0) 0 [] rfl ad9 xs.length ql rows rfl (by first | exact sp_new B1 | exact sp_alloc (sp_new B1) (.cells #[.bool false, .int .i64 cl, .int .i64 0, .slice none 0 0] 38) | exact sp_new2 B1 (.cells #[.bool false, .int .i64 cl, .int .i64 0, .slice none 0 0] 38) rfl) (by simp) hrl (fun b => HR.out _ b) hone xs.length (Nat.zero_add _) (by omega) (by omega) ?_; intro g1 c1 wA SA GA; rw [List.nil_append] at SA; clear Zc0 Zc1 Zc2 Zc3 Zlt; obtain ⟨Zc0, Zc1, Zc2, Zc3⟩ := cells_4 (row_keep SA.bel HZ.out); have Zlt := (Array.getElem?_eq_some_iff.1 (row_keep SA.bel HZ.out)).1) | (refine step_spread rfl _ _ 26 rfl wr 38 i0 (.agg #[.bool false, .int .i64 0, .int .i64 0, .slice none 0 0]) 4 48 Tryd.underlying26 hi hz0 hz1 hz2 rfl (by decide) (.slice (some ⟨g1, 0, none⟩) xs.length c1) xs.length rows rfl ⟨_, 0, none⟩ 1 1 [.bool false, .int .i64 cl, .int .i64 0, .slice none 0 0] rfl (by first | exact SA | exact sp_alloc SA _) (by simp) rfl (fun _ => by first | exact cells_news _ _ _ | exact lay_two (w := wr.drew) (o := .cells #[] 38) (cs := [.bool false, .int .i64 cl, .int .i64 0, .slice none 0 0]) (t := 38) GA | exact lay_three (w := wr.drew) (o := .cells #[] 38) (cs := [.bool false, .int .i64 cl, .int .i64 0, .slice none 0 0]) (t := 38) GA) (by simp [Value.oneCell']) (xs.length + 1) rfl (by omega) (by omega) ?_; intro g2 c2 wB SB GB; clear Zc0 Zc1 Zc2 Zc3 Zlt; obtain ⟨Zc0, Zc1, Zc2, Zc3⟩ := cells_4 (row_keep SB.bel HZ.out); have Zlt := (Array.getElem?_eq_some_iff.1 (row_keep SB.bel HZ.out)).1) | (go_at_call 8; refine (KD.out _ _ _ SB.bel (sp_rd SB (HL.out _ SB.bel))).mono ?_; rintro e wC ⟨rfl, bm⟩; have B2 := below_step SB.bel bm; clear bm SB GA SA GB; clear Zc0 Zc1 Zc2 Zc3 Zlt; obtain ⟨Zc0, Zc1, Zc2, Zc3⟩ := cells_4 (row_keep B2 HZ.out); have Zlt := (Array.getElem?_eq_some_iff.1 (row_keep B2 HZ.out)).1))) | fail
                    all_goals go_wp2_with fail
                    all_goals go_ret
                    all_goals exact ⟨rfl, below_step b0 B2⟩
      · rw [if_neg hn] at hK
        have hn' : (30 : Int) < (xs.length : Int) := by omega
        subst hK
        clear RL ZC hcf
        go_wp2
        go_ret
        exact ⟨rfl, b0⟩
    · rw [if_neg hcf] at hK
      subst hK
      have KC : Hid (∀ W, Calls Tryd.prog 13 #[.agg #[.int .i64 cc, .int .i64 cs, .int .i64 cy, .int .i64 cl]] W fun e w' => e = .returned (.int .i64 (codeI cc cs cy cl)) ∧ Below W.heap.size W w') := fun W => specCode_any cc cs cy cl W
      generalize codeI cc cs cy cl = kc at hcf KC
      clear RL
      obtain ⟨ZCc0, ZCc1, ZCc2, ZCc3⟩ := cells_4 ZC
      have ZClt := (Array.getElem?_eq_some_iff.1 ZC).1
      go_wp2_with fail
      clear ZCc0 ZCc1 ZCc2 ZCc3 ZClt
      refine (KC.out _).mono ?_
      rintro e u130w ⟨rfl, bq⟩
      replace b0 := below_step b0 bq
      replace ZC := row_keep bq ZC
      clear bq KC ZC
      go_wp2
      go_ret
      exact ⟨ret_bool (by first | (simp; done) | (simp [hcf]; done)), b0⟩
end Go.Proofs.YteblffhbennpnaaDoor
