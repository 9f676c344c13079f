/- At every list of Events and every number, impl.ByAgent answers as spec.ByAgent does, field by field, writes into no argument, keeps nothing of one, and its answer owns its memory, behind another call too: the law FnExactByAgent returns true and changes nothing that was there. No condition. -/
import Derived.Test.YtpfgggjcaogkkaaRows
import Derived.Test.YtpfgggjcaogkkaaOwned
import Derived.Test.YtpfgggjcaogkkaaGxKit
import Derived.Test.YtpfgggjcaogkkaaEvByX
import Derived.WalkKit
import Derived.ProofKit
import Derived.OpenShut
import Derived.ShutString
import Derived.ChangeOld
import Derived.Below
import Derived.Carry
import Derived.Lib.SmallJoins
namespace Go.Proofs.Ytpfgggjcaogkkaa.fnExactByAgent
open Go.ChangeShapes Go.WideShapes Go.ChangeAt Go.RowKit Go.Joins
open Go.ChangeMaps (open_string shut_string)
set_option linter.unusedVariables false

theorem own : ownKnob Try.prog.godebug = none := by kernel_rfl
theorem laidOut : laidOutB Try.prog = true := by kernel_rfl

set_option maxHeartbeats 8000000 in
set_option maxRecDepth 100000 in
theorem walk (a0 : Option Addr) (cap0 : Nat) (x0 : RepOf (eventsR)) (a1 : Int) (w1 : (Lit.int .i64 a1).wf = true) (w : World) (w0 : SlRd eventR w a0 x0) (m0 : x0.length ≤ cap0) (l0 : cap0 ≤ maxLen) :
    Calls Try.prog 3 #[.slice a0 x0.length cap0, .int .i64 a1] w fun e w' => e = .returned (.bool true) ∧ Below w.heap.size w w' := by
  have HR0 : Hid (∀ W, Below w.heap.size w W → eventsR.rd W [.slice a0 x0.length cap0] x0) := fun W hb => ⟨_, _, rfl, m0, l0, slrd_next w0 hb⟩
  have hsm := by_small x0 a1
  generalize hres : byA a1 x0 = res at hsm
  have HRES : Hid (byA a1 x0 = res) := hres
  clear hres
  have RR : res = res := rfl
  clear RR
  have CSP : Hid (∀ W cs0, eventsR.rd W cs0 x0 → eventsM.bk x0 ≤ 1048576 → Calls Try.prog 5 #[cell1 cs0, .int .i64 a1] W fun e w' => ∃ ds0, e = .returned (cell1 ds0) ∧ eventsR.rd w' ds0 res ∧ Below W.heap.size W w') := fun W cs0 h0 k0 => by have := specBy_u cs0 x0 a1 W h0 k0; rw [HRES.out] at this; exact this
  have CIM : Hid (∀ W cs0, eventsR.rd W cs0 x0 → eventsM.bk x0 ≤ 1048576 → Calls Try.prog 7 #[cell1 cs0, .int .i64 a1] W fun e w' => ∃ ds0, e = .returned (cell1 ds0) ∧ MadeR eventsR W w' ds0 res) := fun W cs0 h0 k0 => by have := implBy_u cs0 x0 a1 W h0 k0; rw [HRES.out] at this; exact this
  clear HRES
  have b0 := Below.refl w.heap.size w
  go_enter Try.func3, Try.ntmps3
  go_wp2_with fail
  refine (szEvents_u [.slice a0 x0.length cap0] x0 (1048576) _ (HR0.out _ b0) (by omega) (by omega)).mono ?_
  rintro e v1w ⟨rfl, bq⟩
  replace b0 := below_step b0 bq
  clear bq
  by_cases hf0 : ((eventsM.bk x0 : Nat) : Int) ≤ 1048576
  · have HS0 : Hid (szI (eventsM.bk x0) (1048576) = 1048576 - (eventsM.bk x0 : Int)) := szI_yes hf0
    have hg0 : ¬ (1048576 - ((eventsM.bk x0 : Nat) : Int) < 0) := by omega
    have hbk0 : eventsM.bk x0 ≤ 1048576 := by omega
    have hbl0 : eventsM.bk x0 ≤ lot := Nat.le_trans hbk0 (by decide)
    rw [HS0.out]
    replace hsm := hsm hbk0
    have hxm0 : (eventsM.cV x0 : Int) ≤ 268435456 := by have := bv_events x0; omega
    generalize hkx0 : eventsM.cV x0 = kx0 at hxm0
    have HKX0 : Hid (eventsM.cV x0 = kx0) := hkx0
    clear hkx0
    have hb0 : eventsM.bk res ≤ 8388608 := hsm
    have hl0 : eventsM.bk res ≤ lot := Nat.le_trans hb0 (by decide)
    have hgm0 : (eventsM.cV res : Int) ≤ 268435456 := by have := bv_events res; omega
    generalize hky0 : eventsM.cV res = ky0 at hgm0
    have HKY0 : Hid (eventsM.cV res = ky0) := hky0
    clear hky0
    have hlot : (lot : Int) = 4398046511104 := rfl
    go_wp2_with fail
    refine (toEvents_u [.slice a0 x0.length cap0] x0 _ (HR0.out _ b0) hbk0).mono ?_
    rintro e v2w ⟨ds, rfl, mm⟩
    have rr := eventsR.own_rd mm.1
    obtain ⟨gap0, gcp0, ro, -, -, -⟩ := rr
    obtain rfl := ro
    rw [show cell1 [.slice gap0 x0.length gcp0] = .slice gap0 x0.length gcp0 from rfl]
    have P0lo : w.heap.size ≤ v1w.heap.size := b0.size
    have P0 := owned_made (R := eventsR) mm
    have mbP0 := mm.2
    replace b0 := below_step b0 mbP0
    clear mbP0 mm
    go_wp2_with fail
    refine (CSP.out _ [.slice gap0 x0.length gcp0] (eventsR.own_rd P0.1) hbk0).mono ?_
    rintro e v3w ⟨ds0, rfl, rd0, bq⟩
    replace b0 := below_step b0 bq
    replace P0 := owned_next P0 bq
    clear bq
    clear P0
    have rr := rd0
    obtain ⟨gaq0, gcq0, ro, -, -, -⟩ := rr
    obtain rfl := ro
    rw [show cell1 [.slice gaq0 res.length gcq0] = .slice gaq0 res.length gcq0 from rfl]
    have S0 := sight_of rd0
    clear rd0
    go_wp2_with fail
    refine (toEvents_u [.slice a0 x0.length cap0] x0 _ (HR0.out _ b0) hbk0).mono ?_
    rintro e v4w ⟨ds, rfl, mm⟩
    have rr := eventsR.own_rd mm.1
    obtain ⟨gax0, gcx0, ro, -, -, -⟩ := rr
    obtain rfl := ro
    rw [show cell1 [.slice gax0 x0.length gcx0] = .slice gax0 x0.length gcx0 from rfl]
    have X0S0 : v3w.heap.size ≤ v3w.heap.size := sight_lt S0
    have X0lo : w.heap.size ≤ v3w.heap.size := b0.size
    have X0 := owned_made (R := eventsR) mm
    have mbX0 := mm.2
    replace b0 := below_step b0 mbX0
    replace S0 := sight_next S0 mbX0
    clear mbX0 mm
    go_wp2_with fail
    refine (CIM.out _ [.slice gax0 x0.length gcx0] (eventsR.own_rd X0.1) hbk0).mono ?_
    rintro e v5w ⟨ds0, rfl, mm⟩
    have rr := eventsR.own_rd mm.1
    obtain ⟨gag0, gcg0, ro, -, -, -⟩ := rr
    obtain rfl := ro
    rw [show cell1 [.slice gag0 res.length gcg0] = .slice gag0 res.length gcg0 from rfl]
    have GGS0 : v3w.heap.size ≤ v4w.heap.size := sight_lt S0
    have X0GG : v4w.heap.size ≤ v4w.heap.size := X0.2
    have GGlo : w.heap.size ≤ v4w.heap.size := b0.size
    have GG := owned_made (R := eventsR) mm
    have mbGG := mm.2
    replace b0 := below_step b0 mbGG
    replace X0 := owned_next X0 mbGG
    replace S0 := sight_next S0 mbGG
    clear mbGG mm
    go_wp2_with fail
    refine (eqEvents_u [.slice gag0 res.length gcg0] [.slice gaq0 res.length gcq0] res _ (eventsR.own_rd GG.1) (sight_rd S0) hl0).mono ?_
    rintro e v6w ⟨rfl, bq⟩
    replace b0 := below_step b0 bq
    replace X0 := owned_next X0 bq
    replace GG := owned_next GG bq
    replace S0 := sight_next S0 bq
    clear bq
    go_wp2_with fail
    refine (toEvents_u [.slice a0 x0.length cap0] x0 _ (HR0.out _ b0) hbk0).mono ?_
    rintro e v7w ⟨ds, rfl, mm⟩
    have rr := eventsR.own_rd mm.1
    obtain ⟨gay0, gcy0, ro, -, -, -⟩ := rr
    obtain rfl := ro
    rw [show cell1 [.slice gay0 x0.length gcy0] = .slice gay0 x0.length gcy0 from rfl]
    have Y0S0 : v3w.heap.size ≤ v6w.heap.size := sight_lt S0
    have X0Y0 : v4w.heap.size ≤ v6w.heap.size := X0.2
    have GGY0 : v5w.heap.size ≤ v6w.heap.size := GG.2
    have Y0lo : w.heap.size ≤ v6w.heap.size := b0.size
    have Y0 := owned_made (R := eventsR) mm
    have mbY0 := mm.2
    replace b0 := below_step b0 mbY0
    replace X0 := owned_next X0 mbY0
    replace GG := owned_next GG mbY0
    replace S0 := sight_next S0 mbY0
    clear mbY0 mm
    go_wp2_with fail
    refine (eqEvents_u [.slice gax0 x0.length gcx0] [.slice gay0 x0.length gcy0] x0 _ (eventsR.own_rd X0.1) (eventsR.own_rd Y0.1) hbl0).mono ?_
    rintro e v8w ⟨rfl, bq⟩
    replace b0 := below_step b0 bq
    replace X0 := owned_next X0 bq
    replace GG := owned_next GG bq
    replace Y0 := owned_next Y0 bq
    replace S0 := sight_next S0 bq
    clear bq
    clear Y0
    go_wp2_with fail
    refine (mkEvents_u _ [.slice gax0 x0.length gcx0] x0 (1) _ X0.1 (by omega) (by rw [HKX0.out]; omega) hbl0).mono ?_
    rintro e v9w ⟨rfl, gm, ch⟩
    rw [HKX0.out]
    replace b0 := chg_b0 b0 ch X0lo
    replace GG := owned_chg GG ch (.inr X0GG)
    replace S0 := sight_chg S0 ch X0S0
    replace X0 : Owned eventsR (v3w.heap.size) (v4w.heap.size) v9w ([.slice gax0 x0.length gcx0]) (eventsM.mV (1) x0) := And.intro gm (Nat.le_trans X0.2 ch.size)
    clear ch gm
    have nk : ¬ (1 + (kx0 : Int) < 0) := by omega
    go_wp2_with fail
    refine (eqEvents_u [.slice gag0 res.length gcg0] [.slice gaq0 res.length gcq0] res _ (eventsR.own_rd GG.1) (sight_rd S0) hl0).mono ?_
    rintro e v10w ⟨rfl, bq⟩
    replace b0 := below_step b0 bq
    replace X0 := owned_next X0 bq
    replace GG := owned_next GG bq
    replace S0 := sight_next S0 bq
    clear bq
    clear X0
    clear nk
    go_wp2_with fail
    refine (mkEvents_u _ [.slice gag0 res.length gcg0] res (1) _ GG.1 (by omega) (by rw [HKY0.out]; omega) hl0).mono ?_
    rintro e v11w ⟨rfl, gm, ch⟩
    rw [HKY0.out]
    replace b0 := chg_b0 b0 ch GGlo
    replace S0 := sight_chg S0 ch GGS0
    replace GG : Owned eventsR (v4w.heap.size) (v5w.heap.size) v11w ([.slice gag0 res.length gcg0]) (eventsM.mV (1) res) := And.intro gm (Nat.le_trans GG.2 ch.size)
    clear ch gm
    go_wp2_with fail
    refine (hdEvents_u [.slice gag0 res.length gcg0] res (1) _ (eventsR.own_rd GG.1) (by omega) (by rw [HKY0.out]; omega) hl0).mono ?_
    rintro e v12w ⟨rfl, bq⟩
    rw [HKY0.out]
    replace b0 := below_step b0 bq
    replace GG := owned_next GG bq
    replace S0 := sight_next S0 bq
    clear bq
    have nh0 : ¬ (1 + (ky0 : Int) < 0) := by omega
    go_wp2_with fail
    refine (toEvents_u [.slice a0 x0.length cap0] x0 _ (HR0.out _ b0) hbk0).mono ?_
    rintro e v13w ⟨ds, rfl, mm⟩
    have rr := eventsR.own_rd mm.1
    obtain ⟨gau0, gcu0, ro, -, -, -⟩ := rr
    obtain rfl := ro
    rw [show cell1 [.slice gau0 x0.length gcu0] = .slice gau0 x0.length gcu0 from rfl]
    have U0S0 : v3w.heap.size ≤ v12w.heap.size := sight_lt S0
    have GGU0 : v5w.heap.size ≤ v12w.heap.size := GG.2
    have U0lo : w.heap.size ≤ v12w.heap.size := b0.size
    have U0 := owned_made (R := eventsR) mm
    have mbU0 := mm.2
    replace b0 := below_step b0 mbU0
    replace GG := owned_next GG mbU0
    replace S0 := sight_next S0 mbU0
    clear mbU0 mm
    go_wp2_with fail
    refine (CIM.out _ [.slice gau0 x0.length gcu0] (eventsR.own_rd U0.1) hbk0).mono ?_
    rintro e v14w ⟨ds0, rfl, mm⟩
    have rr := eventsR.own_rd mm.1
    obtain ⟨gah0, gch0, ro, -, -, -⟩ := rr
    obtain rfl := ro
    rw [show cell1 [.slice gah0 res.length gch0] = .slice gah0 res.length gch0 from rfl]
    have HHS0 : v3w.heap.size ≤ v13w.heap.size := sight_lt S0
    have GGHH : v5w.heap.size ≤ v13w.heap.size := GG.2
    have U0HH : v13w.heap.size ≤ v13w.heap.size := U0.2
    have HHlo : w.heap.size ≤ v13w.heap.size := b0.size
    have HH := owned_made (R := eventsR) mm
    have mbHH := mm.2
    replace b0 := below_step b0 mbHH
    replace GG := owned_next GG mbHH
    replace U0 := owned_next U0 mbHH
    replace S0 := sight_next S0 mbHH
    clear mbHH mm
    clear U0
    go_wp2_with fail
    refine (eqEvents_u [.slice gah0 res.length gch0] [.slice gaq0 res.length gcq0] res _ (eventsR.own_rd HH.1) (sight_rd S0) hl0).mono ?_
    rintro e v15w ⟨rfl, bq⟩
    replace b0 := below_step b0 bq
    replace GG := owned_next GG bq
    replace HH := owned_next HH bq
    replace S0 := sight_next S0 bq
    clear bq
    go_wp2_with fail
    refine (hdEvents_u [.slice gag0 res.length gcg0] res (1) _ (eventsR.own_rd GG.1) (by omega) (by rw [HKY0.out]; omega) hl0).mono ?_
    rintro e v16w ⟨rfl, bq⟩
    rw [HKY0.out]
    replace b0 := below_step b0 bq
    replace GG := owned_next GG bq
    replace HH := owned_next HH bq
    replace S0 := sight_next S0 bq
    clear bq
    have nh0 : ¬ (1 + (ky0 : Int) < 0) := by omega
    clear GG HH S0
    go_wp2
    go_ret
    exact ⟨rfl, b0⟩
  · have HS0 : Hid (szI (eventsM.bk x0) (1048576) = -1) := szI_no hf0
    rw [HS0.out]
    go_wp2
    go_ret
    exact ⟨rfl, b0⟩

set_option maxRecDepth 100000 in
theorem lifted (os : Os) (started : os.Started) (H : Type) (enc : TypeId × Value → H) :
    ReturnsInHanded {} Try.checked os 3 .any (Rows.fnExactByAgentSpec.pre6 enc Try.prog Try.f3 Rows.fnExactByAgentRow.domain false) (Rows.fnExactByAgentSpec.post enc Try.prog Try.f3 false true false false) := by
  refine returnsInHanded_of_change (C := Try.checked) own started (by kernel_rfl) Try.func3
    (ChangeSpec.witness6 (enc := enc) (C := Try.checked) false ⟨#[], #[.slice none 0 0, .int .i64 0], []⟩ 8 (by kernel_rfl) (by kernel_rfl) (by kernel_rfl) (by kernel_rfl)) ?_
  intro W base args ds gs before hval0 hW hcnd _
  have hval : ∀ (j : Nat) t v, Try.f3.params[j]? = some t → args[j]? = some v → Value.okWide Try.prog W .any base t v := hval0
  have hW' := hW
  obtain ⟨p, q, hA0, hV, rfl, hfz, hnd⟩ := hW
  have hA : DataW.TrodAll enc Try.prog W 0 (fun _ => true) true Try.f3.params.toList args.toList ds p := hA0
  rw [Try.params3] at hA hval
  obtain ⟨v0, vs0, d0, ds0, p0, q0, hargs, rfl, rfl, h0, r0⟩ := trodAll_cons hA
  obtain ⟨v1, vs1, d1, ds1, p1, q1, rfl, rfl, rfl, h1, r1⟩ := trodAll_cons r0
  obtain ⟨rfl, rfl, rfl⟩ := trodAll_nil r1
  obtain rfl : args = #[v0, v1] := by cases args; simp_all
  obtain ⟨rfl, rfl⟩ := trodVars_none hV
  have k0 := h0
  have lt0 : ∀ x ∈ p0, x.block < W.heap.size := by obtain ⟨m, hm⟩ := k0; exact DataW.trod_lt m _ _ _ hm
  have k1 := h1
  have lt1 : ∀ x ∈ p1, x.block < W.heap.size := by obtain ⟨m, hm⟩ := k1; exact DataW.trod_lt m _ _ _ hm
  obtain ⟨x0, a0, cap0, hc0, l0, m0, w0⟩ := open_rep opens_events h0
  obtain ⟨aa0, len0, cc0, rfl⟩ := okWide_slice Try.underlying22 (hval 0 22 v0 rfl rfl)
  simp only [Value.cells, List.cons.injEq, Value.slice.injEq, and_true] at hc0
  obtain ⟨rfl, rfl, rfl⟩ : a0 = aa0 ∧ x0.length = len0 ∧ cap0 = cc0 := ⟨hc0.1.symm, hc0.2.1.symm, hc0.2.2.symm⟩
  obtain ⟨a1, rfl, e1, f1, w1⟩ := open_int Try.underlying2 (hval 1 2 v1 rfl rfl) h1
  clear hA0 hval0
  refine (walk a0 cap0 x0 a1 w1 W w0 l0 m0).mono fun e W' ⟨he, bel⟩ => ?_
  subst he
  exact ⟨_, rfl, _, _, _, [], _, [], hW', trodAll_mk1 (shut_bool Try.underlying4 _), (trodAll_cons_mk (Below.trod laidOut (by kernel_rfl) (of_decide_eq_true (by kernel_rfl)) k0 bel lt0) (trodAll_cons_mk (Below.trod laidOut (by kernel_rfl) (of_decide_eq_true (by kernel_rfl)) k1 bel lt1) trodAll_mk0)), rfl, bel.frame _, fun h => by cases h⟩

theorem over : Rows.fnExactByAgentRow.holds Try.pinned (OpenSpec.ofChange Rows.fnExactByAgentSpec) :=
  OpenClaim.holds_of_wide 3 Try.f3 rfl rfl rfl rfl rfl rfl rfl ⟨rfl, rfl, rfl, rfl, rfl⟩ rfl rfl rfl rfl rfl (by kernel_rfl) Try.func3 (by kernel_rfl)
    (of_decide_eq_true (by kernel_rfl)) (by unfold Func.isWrapper; first | (rw [if_pos (by decide +kernel)]; kernel_rfl) | (rw [if_neg (by decide +kernel)]; exact ⟨rfl, rfl⟩))
    (fun os started H enc _ => lifted os started H enc)

theorem proved : Rows.FnExactByAgentSaid :=
  over
#print axioms proved
end Go.Proofs.Ytpfgggjcaogkkaa.fnExactByAgent
