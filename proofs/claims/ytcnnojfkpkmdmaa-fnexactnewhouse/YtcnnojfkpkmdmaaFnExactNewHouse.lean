/- At every number, impl.NewHouse answers as spec.NewHouse does, field by field, writes into no argument, keeps nothing of one, and its answer owns its memory, behind another call too: the law FnExactNewHouse returns true and changes nothing that was there. No condition. -/
import Derived.Test.YtcnnojfkpkmdmaaRows
import Derived.Test.YtcnnojfkpkmdmaaOwned
import Derived.Test.YtcnnojfkpkmdmaaGxKit
import Derived.Test.YtcnnojfkpkmdmaaHouse2
import Derived.WalkKit
import Derived.ProofKit
import Derived.OpenShut
import Derived.ShutString
import Derived.ChangeOld
import Derived.Below
import Derived.Carry
import Derived.Lib.SmallJoins
namespace Go.Proofs.Ytcnnojfkpkmdmaa.fnExactNewHouse
open Go.ChangeShapes Go.WideShapes Go.ChangeAt Go.RowKit Go.Joins
open Go.ChangeMaps (open_string shut_string)
set_option linter.unusedVariables false

theorem own : ownKnob Try.prog.godebug = none := by kernel_rfl
theorem laidOut : laidOutB Try.prog = true := by kernel_rfl

set_option maxHeartbeats 8000000 in
set_option maxRecDepth 100000 in
theorem walk (a0 : Int) (w0 : (Lit.int .i64 a0).wf = true) (w : World) :
    Calls Try.prog 4 #[.int .i64 a0] w fun e w' => e = .returned (.bool true) ∧ Below w.heap.size w w' := by
  have hsm := newHouse_small a0
  generalize hres : newHouseI a0 = res at hsm
  have HRES : Hid (newHouseI a0 = res) := hres
  clear hres
  obtain ⟨y0, y1⟩ := res
  simp only at hsm
  have CSP : Hid (∀ W, Calls Try.prog 11 #[.int .i64 a0] W fun e w' => ∃ ds0, e = .returned (.tuple #[aggV ds0, .bool y1]) ∧ houseR.rd w' ds0 y0 ∧ Below W.heap.size W w') := fun W  => by have := specNewHouse_u a0 W; rw [HRES.out] at this; exact this
  have CIM : Hid (∀ W, Calls Try.prog 12 #[.int .i64 a0] W fun e w' => ∃ ds0, e = .returned (.tuple #[aggV ds0, .bool y1]) ∧ MadeR houseR W w' ds0 y0) := fun W  => by have := implNewHouse_u a0 W; rw [HRES.out] at this; exact this
  clear HRES
  have b0 := Below.refl w.heap.size w
  go_enter Try.func4, Try.ntmps4
  go_wp2_with fail
  skip
  have hb0 : houseM.bk y0 ≤ 8388608 := hsm
  have hl0 : houseM.bk y0 ≤ lot := Nat.le_trans hb0 (by decide)
  have hgm0 : (houseM.cV y0 : Int) ≤ 268435456 := by have := bv_house y0; omega
  generalize hky0 : houseM.cV y0 = ky0 at hgm0
  have HKY0 : Hid (houseM.cV y0 = ky0) := hky0
  clear hky0
  have hlot : (lot : Int) = 4398046511104 := rfl
  go_wp2_with fail
  refine (CSP.out _  ).mono ?_
  rintro e v1w ⟨ds0, rfl, rd0, bq⟩
  replace b0 := below_step b0 bq
  clear bq
  obtain ⟨gaq0, gcq0, haq0, hcq0, rfl⟩ := house_shape (rd0)
  rw [show aggV [.slice gaq0 y0.1.length gcq0, .slice haq0 y0.2.length hcq0] = .agg #[.slice gaq0 y0.1.length gcq0, .slice haq0 y0.2.length hcq0] from rfl]
  have S0 := sight_of rd0
  clear rd0
  go_wp2_with fail
  have ZQ0 := heap_at v1w (.cells #[.slice gaq0 y0.1.length gcq0, .slice haq0 y0.2.length hcq0] 30)
  have bzZQ0 := box_below v1w (.cells #[.slice gaq0 y0.1.length gcq0, .slice haq0 y0.2.length hcq0] 30)
  replace b0 := below_step b0 bzZQ0
  replace S0 := sight_next S0 bzZQ0
  clear bzZQ0
  generalize v1w.alloc (.cells #[.slice gaq0 y0.1.length gcq0, .slice haq0 y0.2.length hcq0] 30) = v2w at b0 ZQ0 S0 ⊢
  obtain ⟨ZQ0c0, ZQ0c1⟩ := cells_house ZQ0
  have ZQ0lt := (Array.getElem?_eq_some_iff.1 ZQ0).1
  go_wp2_with fail
  clear ZQ0c0 ZQ0c1 ZQ0lt
  refine (CIM.out _  ).mono ?_
  rintro e v3w ⟨ds0, rfl, mm⟩
  obtain ⟨gag0, gcg0, hag0, hcg0, rfl⟩ := house_shape (houseR.own_rd mm.1)
  rw [show aggV [.slice gag0 y0.1.length gcg0, .slice hag0 y0.2.length hcg0] = .agg #[.slice gag0 y0.1.length gcg0, .slice hag0 y0.2.length hcg0] from rfl]
  have GGS0 : v1w.heap.size ≤ v2w.heap.size := sight_lt S0
  have GGZQ0 : v1w.heap.size < v2w.heap.size ∨ v3w.heap.size ≤ v1w.heap.size := .inl (Array.getElem?_eq_some_iff.1 ZQ0).1
  have GGlo : w.heap.size ≤ v2w.heap.size := b0.size
  have GG := owned_made (R := houseR) mm
  have mbGG := mm.2
  replace b0 := below_step b0 mbGG
  replace ZQ0 := row_keep mbGG ZQ0
  replace S0 := sight_next S0 mbGG
  clear mbGG mm
  obtain ⟨ZQ0c0, ZQ0c1⟩ := cells_house ZQ0
  have ZQ0lt := (Array.getElem?_eq_some_iff.1 ZQ0).1
  go_wp2_with fail
  clear ZQ0c0 ZQ0c1 ZQ0lt
  have ZG0 := heap_at v3w (.cells #[.slice gag0 y0.1.length gcg0, .slice hag0 y0.2.length hcg0] 30)
  have bzZG0 := box_below v3w (.cells #[.slice gag0 y0.1.length gcg0, .slice hag0 y0.2.length hcg0] 30)
  have GGZG0 : v3w.heap.size < v2w.heap.size ∨ v3w.heap.size ≤ v3w.heap.size := .inr GG.2
  replace b0 := below_step b0 bzZG0
  replace ZQ0 := row_keep bzZG0 ZQ0
  replace GG := owned_next GG bzZG0
  replace S0 := sight_next S0 bzZG0
  clear bzZG0
  generalize v3w.alloc (.cells #[.slice gag0 y0.1.length gcg0, .slice hag0 y0.2.length hcg0] 30) = v4w at b0 ZQ0 ZG0 GG S0 ⊢
  obtain ⟨ZQ0c0, ZQ0c1⟩ := cells_house ZQ0
  have ZQ0lt := (Array.getElem?_eq_some_iff.1 ZQ0).1
  obtain ⟨ZG0c0, ZG0c1⟩ := cells_house ZG0
  have ZG0lt := (Array.getElem?_eq_some_iff.1 ZG0).1
  go_wp2_with fail
  clear ZQ0c0 ZQ0c1 ZQ0lt ZG0c0 ZG0c1 ZG0lt
  refine (eqHouse_u [.slice gag0 y0.1.length gcg0, .slice hag0 y0.2.length hcg0] [.slice gaq0 y0.1.length gcq0, .slice haq0 y0.2.length hcq0] y0 _ (houseR.own_rd GG.1) (sight_rd S0) hl0).mono ?_
  rintro e v5w ⟨rfl, bq⟩
  replace b0 := below_step b0 bq
  replace ZQ0 := row_keep bq ZQ0
  replace ZG0 := row_keep bq ZG0
  replace GG := owned_next GG bq
  replace S0 := sight_next S0 bq
  clear bq
  obtain ⟨ZQ0c0, ZQ0c1⟩ := cells_house ZQ0
  have ZQ0lt := (Array.getElem?_eq_some_iff.1 ZQ0).1
  obtain ⟨ZG0c0, ZG0c1⟩ := cells_house ZG0
  have ZG0lt := (Array.getElem?_eq_some_iff.1 ZG0).1
  go_wp2_with fail
  clear ZQ0c0 ZQ0c1 ZQ0lt ZG0c0 ZG0c1 ZG0lt
  refine (mkHouse_u _ [.slice gag0 y0.1.length gcg0, .slice hag0 y0.2.length hcg0] y0 (1) _ GG.1 (by omega) (by rw [HKY0.out]; omega) hl0).mono ?_
  rintro e v6w ⟨rfl, gm, ch⟩
  rw [HKY0.out]
  replace b0 := chg_b0 b0 ch GGlo
  replace ZQ0 := row_chg ZQ0 ch GGZQ0
  replace ZG0 := row_chg ZG0 ch GGZG0
  replace S0 := sight_chg S0 ch GGS0
  have GGM : Owned houseR (v2w.heap.size) (v3w.heap.size) v6w ([.slice gag0 y0.1.length gcg0, .slice hag0 y0.2.length hcg0]) (houseM.mV (1) y0) := And.intro gm (Nat.le_trans GG.2 ch.size)
  clear ch GG gm
  have GGMZQ0 := GGZQ0
  have GGMZG0 := GGZG0
  have GGMS0 := GGS0
  have GGMlo := GGlo
  obtain ⟨ZQ0c0, ZQ0c1⟩ := cells_house ZQ0
  have ZQ0lt := (Array.getElem?_eq_some_iff.1 ZQ0).1
  obtain ⟨ZG0c0, ZG0c1⟩ := cells_house ZG0
  have ZG0lt := (Array.getElem?_eq_some_iff.1 ZG0).1
  go_wp2_with fail
  clear ZQ0c0 ZQ0c1 ZQ0lt ZG0c0 ZG0c1 ZG0lt
  refine (hdHouse_u [.slice gag0 y0.1.length gcg0, .slice hag0 y0.2.length hcg0] y0 (1) _ (houseR.own_rd GGM.1) (by omega) (by rw [HKY0.out]; omega) hl0).mono ?_
  rintro e v7w ⟨rfl, bq⟩
  rw [HKY0.out]
  replace b0 := below_step b0 bq
  replace ZQ0 := row_keep bq ZQ0
  replace ZG0 := row_keep bq ZG0
  replace GGM := owned_next GGM bq
  replace S0 := sight_next S0 bq
  clear bq
  have nh0 : ¬ (1 + (ky0 : Int) < 0) := by omega
  obtain ⟨ZQ0c0, ZQ0c1⟩ := cells_house ZQ0
  have ZQ0lt := (Array.getElem?_eq_some_iff.1 ZQ0).1
  obtain ⟨ZG0c0, ZG0c1⟩ := cells_house ZG0
  have ZG0lt := (Array.getElem?_eq_some_iff.1 ZG0).1
  go_wp2_with fail
  clear ZQ0c0 ZQ0c1 ZQ0lt ZG0c0 ZG0c1 ZG0lt
  refine (CIM.out _  ).mono ?_
  rintro e v8w ⟨ds0, rfl, mm⟩
  obtain ⟨gah0, gch0, hah0, hch0, rfl⟩ := house_shape (houseR.own_rd mm.1)
  rw [show aggV [.slice gah0 y0.1.length gch0, .slice hah0 y0.2.length hch0] = .agg #[.slice gah0 y0.1.length gch0, .slice hah0 y0.2.length hch0] from rfl]
  have HHS0 : v1w.heap.size ≤ v7w.heap.size := sight_lt S0
  have HHZQ0 : v1w.heap.size < v7w.heap.size ∨ v8w.heap.size ≤ v1w.heap.size := .inl (Array.getElem?_eq_some_iff.1 ZQ0).1
  have HHZG0 : v3w.heap.size < v7w.heap.size ∨ v8w.heap.size ≤ v3w.heap.size := .inl (Array.getElem?_eq_some_iff.1 ZG0).1
  have GGMHH : v3w.heap.size ≤ v7w.heap.size := GGM.2
  have HHlo : w.heap.size ≤ v7w.heap.size := b0.size
  have HH := owned_made (R := houseR) mm
  have mbHH := mm.2
  replace b0 := below_step b0 mbHH
  replace ZQ0 := row_keep mbHH ZQ0
  replace ZG0 := row_keep mbHH ZG0
  replace GGM := owned_next GGM mbHH
  replace S0 := sight_next S0 mbHH
  clear mbHH mm
  obtain ⟨ZQ0c0, ZQ0c1⟩ := cells_house ZQ0
  have ZQ0lt := (Array.getElem?_eq_some_iff.1 ZQ0).1
  obtain ⟨ZG0c0, ZG0c1⟩ := cells_house ZG0
  have ZG0lt := (Array.getElem?_eq_some_iff.1 ZG0).1
  go_wp2_with fail
  clear ZQ0c0 ZQ0c1 ZQ0lt ZG0c0 ZG0c1 ZG0lt
  have ZH0 := heap_at v8w (.cells #[.slice gah0 y0.1.length gch0, .slice hah0 y0.2.length hch0] 30)
  have bzZH0 := box_below v8w (.cells #[.slice gah0 y0.1.length gch0, .slice hah0 y0.2.length hch0] 30)
  have GGMZH0 : v8w.heap.size < v2w.heap.size ∨ v3w.heap.size ≤ v8w.heap.size := .inr GGM.2
  have HHZH0 : v8w.heap.size < v7w.heap.size ∨ v8w.heap.size ≤ v8w.heap.size := .inr HH.2
  replace b0 := below_step b0 bzZH0
  replace ZQ0 := row_keep bzZH0 ZQ0
  replace ZG0 := row_keep bzZH0 ZG0
  replace GGM := owned_next GGM bzZH0
  replace HH := owned_next HH bzZH0
  replace S0 := sight_next S0 bzZH0
  clear bzZH0
  generalize v8w.alloc (.cells #[.slice gah0 y0.1.length gch0, .slice hah0 y0.2.length hch0] 30) = v9w at b0 ZQ0 ZG0 ZH0 GGM HH S0 ⊢
  obtain ⟨ZQ0c0, ZQ0c1⟩ := cells_house ZQ0
  have ZQ0lt := (Array.getElem?_eq_some_iff.1 ZQ0).1
  obtain ⟨ZG0c0, ZG0c1⟩ := cells_house ZG0
  have ZG0lt := (Array.getElem?_eq_some_iff.1 ZG0).1
  obtain ⟨ZH0c0, ZH0c1⟩ := cells_house ZH0
  have ZH0lt := (Array.getElem?_eq_some_iff.1 ZH0).1
  go_wp2_with fail
  clear ZQ0c0 ZQ0c1 ZQ0lt ZG0c0 ZG0c1 ZG0lt ZH0c0 ZH0c1 ZH0lt
  refine (eqHouse_u [.slice gah0 y0.1.length gch0, .slice hah0 y0.2.length hch0] [.slice gaq0 y0.1.length gcq0, .slice haq0 y0.2.length hcq0] y0 _ (houseR.own_rd HH.1) (sight_rd S0) hl0).mono ?_
  rintro e v10w ⟨rfl, bq⟩
  replace b0 := below_step b0 bq
  replace ZQ0 := row_keep bq ZQ0
  replace ZG0 := row_keep bq ZG0
  replace ZH0 := row_keep bq ZH0
  replace GGM := owned_next GGM bq
  replace HH := owned_next HH bq
  replace S0 := sight_next S0 bq
  clear bq
  obtain ⟨ZQ0c0, ZQ0c1⟩ := cells_house ZQ0
  have ZQ0lt := (Array.getElem?_eq_some_iff.1 ZQ0).1
  obtain ⟨ZG0c0, ZG0c1⟩ := cells_house ZG0
  have ZG0lt := (Array.getElem?_eq_some_iff.1 ZG0).1
  obtain ⟨ZH0c0, ZH0c1⟩ := cells_house ZH0
  have ZH0lt := (Array.getElem?_eq_some_iff.1 ZH0).1
  go_wp2_with fail
  clear ZQ0c0 ZQ0c1 ZQ0lt ZG0c0 ZG0c1 ZG0lt ZH0c0 ZH0c1 ZH0lt
  refine (hdHouse_u [.slice gag0 y0.1.length gcg0, .slice hag0 y0.2.length hcg0] y0 (1) _ (houseR.own_rd GGM.1) (by omega) (by rw [HKY0.out]; omega) hl0).mono ?_
  rintro e v11w ⟨rfl, bq⟩
  rw [HKY0.out]
  replace b0 := below_step b0 bq
  replace ZQ0 := row_keep bq ZQ0
  replace ZG0 := row_keep bq ZG0
  replace ZH0 := row_keep bq ZH0
  replace GGM := owned_next GGM bq
  replace HH := owned_next HH bq
  replace S0 := sight_next S0 bq
  clear bq
  have nh0 : ¬ (1 + (ky0 : Int) < 0) := by omega
  clear ZQ0 ZG0 ZH0 GGM HH S0
  go_wp2
  go_ret
  exact ⟨rfl, b0⟩

set_option maxRecDepth 100000 in
theorem lifted (os : Os) (started : os.Started) (H : Type) (enc : TypeId × Value → H) :
    ReturnsInHanded {} Try.checked os 4 .any (Rows.fnExactNewHouseSpec.pre6 enc Try.prog Try.f4 Rows.fnExactNewHouseRow.domain false) (Rows.fnExactNewHouseSpec.post enc Try.prog Try.f4 false true false false) := by
  refine returnsInHanded_of_change (C := Try.checked) own started (by kernel_rfl) Try.func4
    (ChangeSpec.witness6 (enc := enc) (C := Try.checked) false ⟨#[], #[.int .i64 0], []⟩ 8 (by kernel_rfl) (by kernel_rfl) (by kernel_rfl) (by kernel_rfl)) ?_
  intro W base args ds gs before hval0 hW hcnd _
  have hval : ∀ (j : Nat) t v, Try.f4.params[j]? = some t → args[j]? = some v → Value.okWide Try.prog W .any base t v := hval0
  have hW' := hW
  obtain ⟨p, q, hA0, hV, rfl, hfz, hnd⟩ := hW
  have hA : DataW.TrodAll enc Try.prog W 0 (fun _ => true) true Try.f4.params.toList args.toList ds p := hA0
  rw [Try.params4] at hA hval
  obtain ⟨v0, vs0, d0, ds0, p0, q0, hargs, rfl, rfl, h0, r0⟩ := trodAll_cons hA
  obtain ⟨rfl, rfl, rfl⟩ := trodAll_nil r0
  obtain rfl : args = #[v0] := by cases args; simp_all
  obtain ⟨rfl, rfl⟩ := trodVars_none hV
  have k0 := h0
  have lt0 : ∀ x ∈ p0, x.block < W.heap.size := by obtain ⟨m, hm⟩ := k0; exact DataW.trod_lt m _ _ _ hm
  obtain ⟨a0, rfl, e0, f0, w0⟩ := open_int Try.underlying2 (hval 0 2 v0 rfl rfl) h0
  clear hA0 hval0
  refine (walk a0 w0 W).mono fun e W' ⟨he, bel⟩ => ?_
  subst he
  exact ⟨_, rfl, _, _, _, [], _, [], hW', trodAll_mk1 (shut_bool Try.underlying4 _), (trodAll_cons_mk (Below.trod laidOut (by kernel_rfl) (of_decide_eq_true (by kernel_rfl)) k0 bel lt0) trodAll_mk0), rfl, bel.frame _, fun h => by cases h⟩

theorem over : Rows.fnExactNewHouseRow.holds Try.pinned (OpenSpec.ofChange Rows.fnExactNewHouseSpec) :=
  OpenClaim.holds_of_wide 4 Try.f4 rfl rfl rfl rfl rfl rfl rfl ⟨rfl, rfl, rfl, rfl, rfl⟩ rfl rfl rfl rfl rfl (by kernel_rfl) Try.func4 (by kernel_rfl)
    (of_decide_eq_true (by kernel_rfl)) (by unfold Func.isWrapper; first | (rw [if_pos (by decide +kernel)]; kernel_rfl) | (rw [if_neg (by decide +kernel)]; exact ⟨rfl, rfl⟩))
    (fun os started H enc _ => lifted os started H enc)

theorem proved : Rows.FnExactNewHouseSaid :=
  over
#print axioms proved
end Go.Proofs.Ytcnnojfkpkmdmaa.fnExactNewHouse
