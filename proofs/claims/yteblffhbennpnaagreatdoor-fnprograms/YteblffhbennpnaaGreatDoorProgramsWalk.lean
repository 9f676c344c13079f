
/- The law FnPrograms returns true at every code of at most 4096 bytes, and nothing that was there turns. -/
import Derived.Test.YteblffhbennpnaaGreatDoorDrawProg3
import Derived.Test.YteblffhbennpnaaGreatDoorProgFacts
import Derived.Test.YteblffhbennpnaaGreatDoorOwned
import Derived.Test.YteblffhbennpnaaGreatDoorImpl11
import Derived.Test.YteblffhbennpnaaGreatDoorImplWork
import Derived.Test.YteblffhbennpnaaGreatDoorImplTou
import Derived.Deep.QuietTactic
namespace Go.Proofs.YteblffhbennpnaaGreatDoor
open Go.ChangeShapes Go.WideShapes Go.ChangeAt Go.RowKit
set_option linter.unusedVariables false

set_option maxHeartbeats 16000000 in
set_option maxRecDepth 100000 in
theorem programs_law (a : Option Addr) (len cap : Nat) (zs : List Int) (w : World) (hr : Row8 w a len zs) (hs : len ≤ 4096) (hh : Hold w) :
    Calls Tryz.prog 3 #[.slice a len cap] w fun e w' => e = .returned (.bool true) ∧ Below w.heap.size w w' := by
  have hbig : decide ((4096 : Int) < len) = false := by simp; omega
  have b0 := Below.refl w.heap.size w
  go_enter Tryz.func3, Tryz.ntmps3
  go_wp2_with fail
  refine (big_any _ _ _ _).mono ?_
  rintro e w0 ⟨rfl, hw⟩
  rw [hw]
  clear hw w0
  rw [hbig]
  clear hbig
  have hmx : maxLen = 9223372036854775807 := rfl
  go_wp2_with fail
  refine (drawProgramCode_any _ _ _ zs _ (row8_below hr b0)).mono ?_
  rintro e u1w ⟨cc, cs, cy, cl, xs, al, ql, rfl, hxl, RL, bq⟩
  replace b0 := below_step b0 bq
  clear bq
  obtain ⟨K, hK⟩ : ∃ K, progI cc cs cy cl xs = K := ⟨_, rfl⟩
  have KPi : Hid (∀ W, Below w.heap.size w W → SlRd opR W al xs → Calls Tryz.prog 6 #[.agg #[.int .i64 cc, .int .i64 cs, .int .i64 cy, .int .i64 cl], .slice al xs.length ql] W fun e w' => e = .returned (.int .i64 K) ∧ Below W.heap.size W w') := fun W hb h => by have := implProgramCode_any cc cs cy cl al xs ql W (hh.to hb) h (by omega); rwa [hK] at this
  have KPs : Hid (∀ W, SlRd opR W al xs → Calls Tryz.prog 10 #[.agg #[.int .i64 cc, .int .i64 cs, .int .i64 cy, .int .i64 cl], .slice al xs.length ql] W fun e w' => e = .returned (.int .i64 K) ∧ Below W.heap.size W w') := fun W h => by have := specProgramCode_any cc cs cy cl al xs ql W h (by omega); rwa [hK] at this
  have HK : Hid _ := hK
  clear hK hh
  go_upto_region 4 with fail
  have ZC := heap_at u1w (.cells #[.int .i64 cc, .int .i64 cs, .int .i64 cy, .int .i64 cl] 25)
  have bz := box_below u1w (.cells #[.int .i64 cc, .int .i64 cs, .int .i64 cy, .int .i64 cl] 25)
  replace b0 := below_step b0 bz
  replace RL := slrd_next RL bz
  clear bz
  generalize u1w.alloc (.cells #[.int .i64 cc, .int .i64 cs, .int .i64 cy, .int .i64 cl] 25) = u2w at b0 ZC RL ⊢
  obtain ⟨ZCc0, ZCc1, ZCc2, ZCc3⟩ := cells_4 ZC
  have ZClt := (Array.getElem?_eq_some_iff.1 ZC).1
  go_wp2_with fail
  clear ZCc0 ZCc1 ZCc2 ZCc3 ZClt
  refine (KPi.out _ b0 RL).mono ?_
  rintro e u3w ⟨rfl, bq⟩
  replace b0 := below_step b0 bq
  replace ZC := row_keep bq ZC
  replace RL := slrd_next RL bq
  clear bq KPi
  obtain ⟨ZCc0, ZCc1, ZCc2, ZCc3⟩ := cells_4 ZC
  have ZClt := (Array.getElem?_eq_some_iff.1 ZC).1
  go_wp2_with fail
  clear ZCc0 ZCc1 ZCc2 ZCc3 ZClt
  refine (drawTouches_any _ _ _ zs _ (row8_below hr b0)).mono ?_
  rintro e u4w ⟨ts, at1, qt, rfl, htl, RT, bq⟩
  replace b0 := below_step b0 bq
  replace ZC := row_keep bq ZC
  replace RL := slrd_next RL bq
  clear bq
  have hi : Hid (∀ x ∈ touL ts, In64 x) := tou_in ts
  have hcl := tou_len16 ts
  have hri : Hid ((touL ts).Pairwise (· < ·)) := tou_rise ts
  generalize hL : touL ts = L at hi hcl hri
  have KTi : Hid (∀ a c W, SlRd opR W a ts → Calls Tryz.prog 8 #[.slice a ts.length c] W fun e w' => ∃ b q, e = .returned (.slice b L.length q) ∧ SlRd intR w' b L ∧ Below W.heap.size W w') := fun a c W h => (implTouches_any a ts c W h (by omega)).mono fun e w' ⟨v, h1, h2⟩ => by rw [hL] at h2; obtain ⟨b, q, hv⟩ := slown_val (madeR_ints h2 hi.out).1; subst hv; exact ⟨b, q, h1, ints_rd7 (madeR_ints h2 hi.out).1, (madeR_ints h2 hi.out).2⟩
  have KTs : Hid (∀ a c W, SlRd opR W a ts → Calls Tryz.prog 12 #[.slice a ts.length c] W fun e w' => ∃ b q, e = .returned (.slice b L.length q) ∧ SlRd intR w' b L ∧ Below W.heap.size W w') := fun a c W h => (specTouches_any a ts c W h (by omega)).mono fun e w' ⟨v, h1, h2⟩ => by rw [hL] at h2; obtain ⟨b, q, hv⟩ := slown_val (madeR_ints h2 hi.out).1; subst hv; exact ⟨b, q, h1, ints_rd7 (madeR_ints h2 hi.out).1, (madeR_ints h2 hi.out).2⟩
  clear hi hL
  obtain ⟨ZCc0, ZCc1, ZCc2, ZCc3⟩ := cells_4 ZC
  have ZClt := (Array.getElem?_eq_some_iff.1 ZC).1
  go_wp2_with fail
  clear ZCc0 ZCc1 ZCc2 ZCc3 ZClt
  refine (KTi.out _ _ _ RT).mono ?_
  rintro e u5w ⟨ax, qx, rfl, RX, bq⟩
  replace b0 := below_step b0 bq
  replace ZC := row_keep bq ZC
  replace RL := slrd_next RL bq
  replace RT := slrd_next RT bq
  clear bq KTi
  obtain ⟨ZCc0, ZCc1, ZCc2, ZCc3⟩ := cells_4 ZC
  have ZClt := (Array.getElem?_eq_some_iff.1 ZC).1
  go_wp2_with fail
  clear ZCc0 ZCc1 ZCc2 ZCc3 ZClt
  refine (drawWork_any _ _ _ zs _ (row8_below hr b0)).mono ?_
  rintro e u6w ⟨ps, ap, qp, ds, ad, qd, rfl, -, -, hpl, hp5, hdl, RP, RD, bq⟩
  replace b0 := below_step b0 bq
  replace ZC := row_keep bq ZC
  replace RL := slrd_next RL bq
  replace RT := slrd_next RT bq
  replace RX := slrd_next RX bq
  clear bq RD hr
  have hle := lens_small hp5
  obtain ⟨N, hN⟩ : ∃ N : Int, ((ds.length + lensI ps : Nat) : Int) = N := ⟨_, rfl⟩
  have KWi : Hid (∀ W, SlRd opsR W ap ps → Calls Tryz.prog 13 #[.slice ap ps.length qp, .slice ad ds.length qd] W fun e w' => e = .returned (.int .i64 N) ∧ Below W.heap.size W w') := fun W h => by have := implWork_any ap ps qp ad ds.length qd W h (by omega) (by omega); rw [hN] at this; exact this
  have KWs : Hid (∀ W, SlRd opsR W ap ps → Calls Tryz.prog 14 #[.slice ap ps.length qp, .slice ad ds.length qd] W fun e w' => e = .returned (.int .i64 N) ∧ Below W.heap.size W w') := fun W h => by have := specWork_any ap ps qp ad ds.length qd W h (by omega) (by omega); rw [hN] at this; exact this.mono fun e w' ⟨h1, h2⟩ => ⟨h1, by rw [h2]; exact Below.refl _ _⟩
  clear hN hle hp5
  obtain ⟨ZCc0, ZCc1, ZCc2, ZCc3⟩ := cells_4 ZC
  have ZClt := (Array.getElem?_eq_some_iff.1 ZC).1
  go_wp2_with fail
  clear ZCc0 ZCc1 ZCc2 ZCc3 ZClt
  refine (KPs.out _ RL).mono ?_
  rintro e u7w ⟨rfl, bq⟩
  replace b0 := below_step b0 bq
  replace ZC := row_keep bq ZC
  replace RL := slrd_next RL bq
  replace RT := slrd_next RT bq
  replace RX := slrd_next RX bq
  replace RP := slrd_next RP bq
  clear bq KPs
  obtain ⟨ZCc0, ZCc1, ZCc2, ZCc3⟩ := cells_4 ZC
  have ZClt := (Array.getElem?_eq_some_iff.1 ZC).1
  go_wp2_with fail
  clear ZCc0 ZCc1 ZCc2 ZCc3 ZClt
  refine (KTs.out _ _ _ RT).mono ?_
  rintro e u8w ⟨ay, qy, rfl, RY, bq⟩
  replace b0 := below_step b0 bq
  replace ZC := row_keep bq ZC
  replace RL := slrd_next RL bq
  replace RT := slrd_next RT bq
  replace RX := slrd_next RX bq
  replace RP := slrd_next RP bq
  clear bq KTs
  obtain ⟨ZCc0, ZCc1, ZCc2, ZCc3⟩ := cells_4 ZC
  have ZClt := (Array.getElem?_eq_some_iff.1 ZC).1
  go_wp2_with fail
  clear ZCc0 ZCc1 ZCc2 ZCc3 ZClt
  refine (likeInts_any ax ay L qx qy _ (reads_of RX) (reads_of RY) (by omega)).mono ?_
  rintro e u9w ⟨rfl, nq, hq⟩
  have bq := (show Below u8w.heap.size u8w u9w from by rw [hq]; exact be_drewN (Below.refl _ _) nq)
  replace b0 := below_step b0 bq
  replace ZC := row_keep bq ZC
  replace RL := slrd_next RL bq
  replace RT := slrd_next RT bq
  replace RX := slrd_next RX bq
  replace RP := slrd_next RP bq
  replace RY := slrd_next RY bq
  clear bq hq nq
  obtain ⟨ZCc0, ZCc1, ZCc2, ZCc3⟩ := cells_4 ZC
  have ZClt := (Array.getElem?_eq_some_iff.1 ZC).1
  go_wp2_with fail
  clear ZCc0 ZCc1 ZCc2 ZCc3 ZClt
  refine (KWi.out _ RP).mono ?_
  rintro e u10w ⟨rfl, bq⟩
  replace b0 := below_step b0 bq
  replace ZC := row_keep bq ZC
  replace RL := slrd_next RL bq
  replace RT := slrd_next RT bq
  replace RX := slrd_next RX bq
  replace RP := slrd_next RP bq
  replace RY := slrd_next RY bq
  clear bq KWi
  obtain ⟨ZCc0, ZCc1, ZCc2, ZCc3⟩ := cells_4 ZC
  have ZClt := (Array.getElem?_eq_some_iff.1 ZC).1
  go_wp2_with fail
  clear ZCc0 ZCc1 ZCc2 ZCc3 ZClt
  refine (KWs.out _ RP).mono ?_
  rintro e u11w ⟨rfl, bq⟩
  replace b0 := below_step b0 bq
  replace ZC := row_keep bq ZC
  replace RL := slrd_next RL bq
  replace RT := slrd_next RT bq
  replace RX := slrd_next RX bq
  replace RP := slrd_next RP bq
  replace RY := slrd_next RY bq
  clear bq KWs
  obtain ⟨ZCc0, ZCc1, ZCc2, ZCc3⟩ := cells_4 ZC
  have ZClt := (Array.getElem?_eq_some_iff.1 ZC).1
  go_wp2_with fail
  clear ZCc0 ZCc1 ZCc2 ZCc3 ZClt
  refine (rises_any ax L qx _ (reads_of RX) hri.out (by omega)).mono ?_
  rintro e u12w ⟨rfl, nq, hq⟩
  have bq := (show Below u11w.heap.size u11w u12w from by rw [hq]; exact be_drewN (Below.refl _ _) nq)
  replace b0 := below_step b0 bq
  replace ZC := row_keep bq ZC
  replace RL := slrd_next RL bq
  replace RT := slrd_next RT bq
  replace RX := slrd_next RX bq
  replace RP := slrd_next RP bq
  replace RY := slrd_next RY bq
  clear bq hq nq
  clear RT RX RY RP
  clear hri hcl htl hpl hdl
  obtain ⟨R, hR⟩ : ∃ R, xs.all opOkD = R := ⟨_, rfl⟩
  have HR : Hid _ := hR
  clear hR
  have HX : Hid _ := And.intro b0 (And.intro ZC RL)
  clear b0 ZC RL
  go_wp2
  go_loopw [10, 11] (fun r i wr => ∃ k : Nat, k ≤ xs.length ∧ i = .int .i64 k ∧ r = .bool ((xs.take k).all opOkD) ∧ Below u12w.heap.size u12w wr) (fun _ i _ => xs.length - (intOf i).toNat)
  case atStart => exact ⟨0, Nat.zero_le _, rfl, rfl, Below.refl _ _⟩
  case round =>
    obtain ⟨k, hk, rfl, rfl, BB⟩ := hrel
    by_cases hlt : k < xs.length
    · skip
      have hlt' : (k : Int) < (xs.length : Int) := by omega
      obtain ⟨x, hx⟩ : ∃ x, xs[k]? = some x := ⟨_, List.getElem?_eq_getElem hlt⟩
      obtain ⟨b, off, rfl, x0, x1, x2, x3, -⟩ := op_at (slrd_next HX.out.2.2 BB) hx
      have HT : Hid (((xs.take k).all opOkD && opOkD x) = (xs.take (k + 1)).all opOkD) := (take_all hx).symm
      generalize (xs.take k).all opOkD = r at HT ⊢
      have KO : Hid (∀ W, Calls Tryz.prog 16 #[.agg #[.int .i64 x.1, .int .i64 x.2.1, .int .i64 x.2.2.1, .int .i64 x.2.2.2]] W fun e w' => e = .returned (.bool (opOkD x)) ∧ Below W.heap.size W w') := fun W => specOpOk_any x.1 x.2.1 x.2.2.1 x.2.2.2 W
      generalize opOkD x = q at HT KO
      clear hx HX HR HK
      cases r
      · skip
        go_wp2_with fail
        go_roundw
        case rel => exact ⟨k + 1, by omega, by go_num, by rw [← HT.out]; rfl, BB⟩
        case measure => simp [intOf]; omega
      · skip
        go_wp2_with ((go_at_call 16; refine (KO.out _).mono ?_; rintro e wy ⟨rfl, bb⟩; replace BB := below_step BB bb; clear bb x0 x1 x2 x3))
        go_roundw
        case rel => exact ⟨k + 1, by omega, by go_num, by rw [← HT.out]; rfl, BB⟩
        case measure => simp [intOf]; omega
    · skip
      have hkl : k = xs.length := by omega
      subst hkl
      rw [List.take_length, HR.out]
      obtain ⟨b0, ZC, RL⟩ := HX.out
      replace b0 := below_step b0 BB
      replace ZC := row_keep BB ZC
      replace RL := slrd_next RL BB
      clear HX BB hlt hk
      have hK := HK.out
      clear HK
      unfold progI at hK
      by_cases hcf : codeI cc cs cy cl = 0
      · rw [if_pos hcf] at hK
        have KC : Hid (∀ W, Calls Tryz.prog 17 #[.agg #[.int .i64 cc, .int .i64 cs, .int .i64 cy, .int .i64 cl]] W fun e w' => e = .returned (.int .i64 0) ∧ Below W.heap.size W w') := fun W => by have := specCode_any cc cs cy cl W; rwa [hcf] at this
        by_cases hn : xs.length ≤ 30
        · rw [if_pos hn] at hK
          have hn' : (xs.length : Int) ≤ 30 := by omega
          cases R
          · rw [HR.out] at hK
            have hK3 : K = 3 := by rw [← hK]; rfl
            subst hK3
            clear hK HR KC RL ZC hcf
            go_wp2
            go_ret
            exact ⟨rfl, b0⟩
          · rw [HR.out] at hK
            have hP := prog_in (l := cl) HR.out
            rw [if_pos rfl] at hK
            generalize xs.all (adrOk cl) = A2 at hK hP
            have hi : Hid (∀ x ∈ touL xs, In64 x) := tou_in xs
            have hcl := tou_len16 xs
            generalize hM : touL xs = M at hi hcl hP
            have KTi : Hid (∀ a c W, SlRd opR W a xs → Calls Tryz.prog 8 #[.slice a xs.length c] W fun e w' => ∃ b q, e = .returned (.slice b M.length q) ∧ SlRd intR w' b M ∧ Below W.heap.size W w') := fun a c W h => (implTouches_any a xs c W h (by omega)).mono fun e w' ⟨v, h1, h2⟩ => by rw [hM] at h2; obtain ⟨b, q, hv⟩ := slown_val (madeR_ints h2 hi.out).1; subst hv; exact ⟨b, q, h1, ints_rd7 (madeR_ints h2 hi.out).1, (madeR_ints h2 hi.out).2⟩
            have HP : Hid _ := And.intro hK hP
            clear hi hM hK hP hcf HR
            have hk4 : K = 0 ∨ K = 4 := by have := HP.out.1; cases A2 <;> simp at this <;> omega
            have hk1 : K ≠ 1 := by omega
            have hk2 : K ≠ 2 := by omega
            have hk3 : K ≠ 3 := by omega
            clear hk4
            obtain ⟨ZCc0, ZCc1, ZCc2, ZCc3⟩ := cells_4 ZC
            have ZClt := (Array.getElem?_eq_some_iff.1 ZC).1
            go_wp2_with fail
            clear ZCc0 ZCc1 ZCc2 ZCc3 ZClt
            refine (KTi.out _ _ _ RL).mono ?_
            rintro e u13w ⟨am, qm, rfl, RM, bq⟩
            replace b0 := below_step b0 bq
            replace ZC := row_keep bq ZC
            replace RL := slrd_next RL bq
            clear bq KTi hk1 hk2 hk3 RL
            obtain ⟨hK, hP⟩ := HP.out
            clear HP
            by_cases hM : M = []
            · subst hM
              simp only [decide_true, Bool.true_or] at hP
              subst hP
              have hK0 : K = 0 := by rw [← hK]; rfl
              subst hK0
              clear hK RM
              simp only [List.length_nil]
              obtain ⟨ZCc0, ZCc1, ZCc2, ZCc3⟩ := cells_4 ZC
              have ZClt := (Array.getElem?_eq_some_iff.1 ZC).1
              go_wp2_with fail
              go_quiet (fail)
              clear ZCc0 ZCc1 ZCc2 ZCc3 ZClt 
              have bq := be_drewN (Below.refl u13w.heap.size u13w) nq
              replace b0 := below_step b0 bq
              replace ZC := row_keep bq ZC
              clear bq
              generalize u13w.drewN nq = u14w at b0 ZC ⊢
              obtain ⟨ZCc0, ZCc1, ZCc2, ZCc3⟩ := cells_4 ZC
              have ZClt := (Array.getElem?_eq_some_iff.1 ZC).1
              go_wp2_with fail
              clear ZCc0 ZCc1 ZCc2 ZCc3 ZClt
              refine (KC.out _).mono ?_
              rintro e u15w ⟨rfl, bq⟩
              replace b0 := below_step b0 bq
              replace ZC := row_keep bq ZC
              clear bq KC ZC
              go_wp2
              go_ret
              exact ⟨rfl, b0⟩
            · obtain ⟨m, z, hm, hz, hg⟩ := last_at hM
              rw [hg] at hP
              rw [show decide (M = []) = false from decide_eq_false hM, Bool.false_or] at hP
              obtain ⟨bm, om, rfl, mc⟩ := int_get RM hz
              have e0 : ¬ (M.length = 0) := by omega
              have e1 : (M.length : Int) - 1 = (m : Int) := by omega
              have e2 : (m : Int) < (M.length : Int) := by omega
              have e3 : IntKind.i64.wrap (m : Int) = (m : Int) := by rw [IntKind.wrap_i64]; omega
              clear RM hg hz hM hm
              generalize M.length = ml at e0 e1 e2 hcl ⊢
              cases A2
              · skip
                have hlz : ¬ (z < cl) := by simpa using hP.symm
                have hK4 : K = 4 := by rw [← hK]; rfl
                subst hK4
                clear hK hP
                obtain ⟨ZCc0, ZCc1, ZCc2, ZCc3⟩ := cells_4 ZC
                have ZClt := (Array.getElem?_eq_some_iff.1 ZC).1
                go_wp2_with fail
                go_quiet (fail)
                clear ZCc0 ZCc1 ZCc2 ZCc3 ZClt mc e1 e2 e3
                have bq := be_drewN (Below.refl u13w.heap.size u13w) nq
                replace b0 := below_step b0 bq
                replace ZC := row_keep bq ZC
                clear bq
                generalize u13w.drewN nq = u54w at b0 ZC ⊢
                obtain ⟨ZCc0, ZCc1, ZCc2, ZCc3⟩ := cells_4 ZC
                have ZClt := (Array.getElem?_eq_some_iff.1 ZC).1
                go_wp2_with fail
                clear ZCc0 ZCc1 ZCc2 ZCc3 ZClt
                refine (KC.out _).mono ?_
                rintro e u55w ⟨rfl, bq⟩
                replace b0 := below_step b0 bq
                replace ZC := row_keep bq ZC
                clear bq KC ZC
                go_wp2
                go_ret
                exact ⟨ret_bool (by simp [hlz, e0]), b0⟩
              · skip
                have hlz : z < cl := by simpa using hP.symm
                have hK4 : K = 0 := by rw [← hK]; rfl
                subst hK4
                clear hK hP
                obtain ⟨ZCc0, ZCc1, ZCc2, ZCc3⟩ := cells_4 ZC
                have ZClt := (Array.getElem?_eq_some_iff.1 ZC).1
                go_wp2_with fail
                go_quiet (fail)
                clear ZCc0 ZCc1 ZCc2 ZCc3 ZClt mc e1 e2 e3
                have bq := be_drewN (Below.refl u13w.heap.size u13w) nq
                replace b0 := below_step b0 bq
                replace ZC := row_keep bq ZC
                clear bq
                generalize u13w.drewN nq = u76w at b0 ZC ⊢
                obtain ⟨ZCc0, ZCc1, ZCc2, ZCc3⟩ := cells_4 ZC
                have ZClt := (Array.getElem?_eq_some_iff.1 ZC).1
                go_wp2_with fail
                clear ZCc0 ZCc1 ZCc2 ZCc3 ZClt
                refine (KC.out _).mono ?_
                rintro e u77w ⟨rfl, bq⟩
                replace b0 := below_step b0 bq
                replace ZC := row_keep bq ZC
                clear bq KC ZC
                go_wp2
                go_ret
                exact ⟨rfl, b0⟩
        · rw [if_neg hn] at hK
          have hn' : (30 : Int) < (xs.length : Int) := by omega
          subst hK
          clear HR KC RL ZC hcf
          go_wp2
          go_ret
          exact ⟨rfl, b0⟩
      · rw [if_neg hcf] at hK
        subst hK
        have KC : Hid (∀ W, Calls Tryz.prog 17 #[.agg #[.int .i64 cc, .int .i64 cs, .int .i64 cy, .int .i64 cl]] W fun e w' => e = .returned (.int .i64 (codeI cc cs cy cl)) ∧ Below W.heap.size W w') := fun W => specCode_any cc cs cy cl W
        generalize codeI cc cs cy cl = kc at hcf KC
        clear HR RL
        obtain ⟨ZCc0, ZCc1, ZCc2, ZCc3⟩ := cells_4 ZC
        have ZClt := (Array.getElem?_eq_some_iff.1 ZC).1
        go_wp2_with fail
        clear ZCc0 ZCc1 ZCc2 ZCc3 ZClt
        refine (KC.out _).mono ?_
        rintro e u133w ⟨rfl, bq⟩
        replace b0 := below_step b0 bq
        replace ZC := row_keep bq ZC
        clear bq KC ZC
        go_wp2
        go_ret
        exact ⟨ret_bool (by simpa using hcf), b0⟩
end Go.Proofs.YteblffhbennpnaaGreatDoor
