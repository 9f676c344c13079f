/- At every entry, impl.EntryOk answers as spec.EntryOk does and writes into no argument: the law FnExactEntryOk returns true and changes nothing that was there. No condition. -/
import Derived.Test.YtlbolnbchijknaaRows
import Derived.Test.YtlbolnbchijknaaOwnedE
import Derived.Test.YtlbolnbchijknaaEntOk
import Derived.Test.YtlbolnbchijknaaImplEnt
import Derived.WalkKit
import Derived.ProofKit
import Derived.OpenShut
import Derived.ShutString
import Derived.ChangeOld
import Derived.Below
import Derived.Carry
import Derived.Lib.SmallJoins
namespace Go.Proofs.Ytlbolnbchijknaa.fnExactEntryOk
open Go.ChangeShapes Go.WideShapes Go.ChangeAt Go.RowKit Go.Joins
open Go.ChangeMaps (open_string shut_string)
set_option linter.unusedVariables false

theorem own : ownKnob Try.prog.godebug = none := by kernel_rfl
theorem laidOut : laidOutB Try.prog = true := by kernel_rfl

set_option maxHeartbeats 8000000 in
set_option maxRecDepth 100000 in
theorem walk (cs0 : Array Value) (x0 : RepOf (entR)) (w : World) (w0 : (entR).rd w cs0.toList x0) :
    Calls Try.prog 4 #[.agg cs0] w fun e w' => e = .returned (.bool true) ∧ Below w.heap.size w w' := by
  obtain ⟨f0, f1, f2, f3, f4, f5, f6, d⟩ := x0
  obtain ⟨ad, cpw, hcs, j0, j1, j3, j4, j5, j6, k1, k2, r3⟩ := ent_rd w0
  simp only at hcs j0 j1 j3 j4 j5 j6 k1 r3
  obtain rfl := arr_of hcs
  clear w0 hcs
  have m3 := Nat.le_trans k1 k2
  have HW : Hid (SlRd intR w ad d) := r3
  have HJ : Hid (In64 f0 ∧ In64 f1 ∧ In64 f3 ∧ In64 f4 ∧ In64 f5 ∧ In64 f6) := ⟨j0, j1, j3, j4, j5, j6⟩
  clear r3 j0 j1 j3 j4 j5 j6 k1 k2
  have A := heap_at w (.cells #[.int .i64 f0, .int .i64 f1, .bool f2, .int .i64 f3, .int .i64 f4, .int .i64 f5, .int .i64 f6, .slice ad d.length cpw] 38)
  have b0 := box_below w (.cells #[.int .i64 f0, .int .i64 f1, .bool f2, .int .i64 f3, .int .i64 f4, .int .i64 f5, .int .i64 f6, .slice ad d.length cpw] 38)
  go_enter Try.func4, Try.ntmps4
  go_wp2_with fail
  generalize w.alloc (.cells #[.int .i64 f0, .int .i64 f1, .bool f2, .int .i64 f3, .int .i64 f4, .int .i64 f5, .int .i64 f6, .slice ad d.length cpw] 38) = v0w at A b0 ⊢
  refine (szEntry_rep f0 f1 f3 f4 f5 f6 f2 d ad cpw 1048576 _ (by decide) (by decide) m3).mono ?_
  rintro e w2 ⟨rfl, bb1⟩
  replace b0 := below_step b0 bb1
  replace A := row_keep bb1 A
  clear bb1
  have hwb := bk_ent (f0, f1, f2, f3, f4, f5, f6, d)
  have hwl : intsM.bk d = d.length := bk_ints7 d
  simp only at hwb
  by_cases hf : ((entM.bk (f0, f1, f2, f3, f4, f5, f6, d) : Nat) : Int) ≤ 1048576
  · have HS : Hid (szI (entM.bk (f0, f1, f2, f3, f4, f5, f6, d)) 1048576 = 1048576 - (entM.bk (f0, f1, f2, f3, f4, f5, f6, d) : Int)) := szI_yes hf
    have hf' : ¬ (1048576 - ((entM.bk (f0, f1, f2, f3, f4, f5, f6, d) : Nat) : Int) < 0) := by omega
    have hdl : d.length ≤ 1048576 := by omega
    have hdb : intsM.bk d ≤ 1048576 := by omega
    have hdc : slcnt intM d ≤ 1048576 := by rw [slcnt_ints]; exact hdl
    rw [HS.out]
    have CW : Hid (∀ W, Below w.heap.size w W → Calls Try.prog 23 #[.agg #[.int .i64 f0, .int .i64 f1, .bool f2, .int .i64 f3, .int .i64 f4, .int .i64 f5, .int .i64 f6, .slice ad d.length cpw]] W fun e w' => ∃ av cv, e = .returned (.agg #[.int .i64 f0, .int .i64 f1, .bool f2, .int .i64 f3, .int .i64 f4, .int .i64 f5, .int .i64 f6, .slice av d.length cv]) ∧ MadeR entR W w' [.int .i64 f0, .int .i64 f1, .bool f2, .int .i64 f3, .int .i64 f4, .int .i64 f5, .int .i64 f6, .slice av d.length cv] (f0, f1, f2, f3, f4, f5, f6, d)) := fun W hb => toEntry_rep f0 f1 f3 f4 f5 f6 f2 d ad cpw W HJ.out.1 HJ.out.2.1 HJ.out.2.2.1 HJ.out.2.2.2.1 HJ.out.2.2.2.2.1 HJ.out.2.2.2.2.2 (slrd_next HW.out hb) hdb
    clear hwb
    generalize hQ : entB (f0, f1, f2, f3, f4, f5, f6, d) = Q
    have HQ : Hid (entB (f0, f1, f2, f3, f4, f5, f6, d) = Q) := hQ
    clear hQ
    obtain ⟨Ac0, Ac1, Ac2, Ac3, Ac4, Ac5, Ac6, Ac7⟩ := cells_8 A
    have Alt := (Array.getElem?_eq_some_iff.1 A).1
    go_wp2_with fail
    clear Ac0 Ac1 Ac2 Ac3 Ac4 Ac5 Ac6 Ac7 Alt
    refine (CW.out _ b0).mono ?_
    rintro e v1w ⟨aw1, cw1, rfl, mm⟩
    have Saw1 : SlRd intR v1w aw1 d := owned_entd (owned_made mm)
    have mb := mm.2
    replace b0 := below_step b0 mb
    replace A := row_keep mb A
    clear mb mm
    obtain ⟨Ac0, Ac1, Ac2, Ac3, Ac4, Ac5, Ac6, Ac7⟩ := cells_8 A
    have Alt := (Array.getElem?_eq_some_iff.1 A).1
    go_wp2_with fail
    clear Ac0 Ac1 Ac2 Ac3 Ac4 Ac5 Ac6 Ac7 Alt
    have C1 := specEntryOk_any f0 f1 f3 f4 f5 f6 f2 d aw1 cw1 _ Saw1
    rw [HQ.out] at C1
    refine C1.mono ?_
    rintro e v2w ⟨rfl, bq⟩
    replace b0 := below_step b0 bq
    replace A := row_keep bq A
    clear bq C1 Saw1
    obtain ⟨Ac0, Ac1, Ac2, Ac3, Ac4, Ac5, Ac6, Ac7⟩ := cells_8 A
    have Alt := (Array.getElem?_eq_some_iff.1 A).1
    go_wp2_with fail
    clear Ac0 Ac1 Ac2 Ac3 Ac4 Ac5 Ac6 Ac7 Alt
    refine (CW.out _ b0).mono ?_
    rintro e v3w ⟨aw2, cw2, rfl, mm⟩
    have X1A : w.heap.size < v2w.heap.size ∨ v3w.heap.size ≤ w.heap.size := .inl (Array.getElem?_eq_some_iff.1 A).1
    have X1lo : w.heap.size ≤ v2w.heap.size := b0.size
    have X1 := owned_made (R := entR) mm
    have mbX1 := mm.2
    replace b0 := below_step b0 mbX1
    replace A := row_keep mbX1 A
    clear mbX1 mm
    obtain ⟨Ac0, Ac1, Ac2, Ac3, Ac4, Ac5, Ac6, Ac7⟩ := cells_8 A
    have Alt := (Array.getElem?_eq_some_iff.1 A).1
    go_wp2_with fail
    clear Ac0 Ac1 Ac2 Ac3 Ac4 Ac5 Ac6 Ac7 Alt
    have ZX1 := heap_at v3w (.cells #[.int .i64 f0, .int .i64 f1, .bool f2, .int .i64 f3, .int .i64 f4, .int .i64 f5, .int .i64 f6, .slice aw2 d.length cw2] 26)
    have bzZX1 := box_below v3w (.cells #[.int .i64 f0, .int .i64 f1, .bool f2, .int .i64 f3, .int .i64 f4, .int .i64 f5, .int .i64 f6, .slice aw2 d.length cw2] 26)
    have X1ZX1 : v3w.heap.size < v2w.heap.size ∨ v3w.heap.size ≤ v3w.heap.size := .inr X1.2
    replace b0 := below_step b0 bzZX1
    replace A := row_keep bzZX1 A
    replace X1 := owned_next X1 bzZX1
    clear bzZX1
    generalize v3w.alloc (.cells #[.int .i64 f0, .int .i64 f1, .bool f2, .int .i64 f3, .int .i64 f4, .int .i64 f5, .int .i64 f6, .slice aw2 d.length cw2] 26) = v4w at b0 A ZX1 X1 ⊢
    have C1 := implEntryOk_any f0 f1 f3 f4 f5 f6 f2 d aw2 cw2 _ (owned_entd X1)
    rw [HQ.out] at C1
    refine C1.mono ?_
    rintro e v5w ⟨rfl, bq⟩
    replace b0 := below_step b0 bq
    replace A := row_keep bq A
    replace ZX1 := row_keep bq ZX1
    replace X1 := owned_next X1 bq
    clear bq C1
    obtain ⟨Ac0, Ac1, Ac2, Ac3, Ac4, Ac5, Ac6, Ac7⟩ := cells_8 A
    have Alt := (Array.getElem?_eq_some_iff.1 A).1
    obtain ⟨ZX1c0, ZX1c1, ZX1c2, ZX1c3, ZX1c4, ZX1c5, ZX1c6, ZX1c7⟩ := cells_8 ZX1
    have ZX1lt := (Array.getElem?_eq_some_iff.1 ZX1).1
    go_wp2_with fail
    clear Ac0 Ac1 Ac2 Ac3 Ac4 Ac5 Ac6 Ac7 Alt ZX1c0 ZX1c1 ZX1c2 ZX1c3 ZX1c4 ZX1c5 ZX1c6 ZX1c7 ZX1lt
    go_cut [26] from 22 to 26 (fun q wx => q = .bool false ∧ Below v5w.heap.size v5w wx)
    case first =>
      have B1 : Below v5w.heap.size v5w v5w.drew := (Below.refl _ _).drew
      have HA : Hid _ := A
      have HZ : Hid _ := ZX1
      have HX1 : Hid _ := owned_entd X1
      have HB : Hid _ := b0
      clear b0 A ZX1 X1
      obtain ⟨Ac0, Ac1, Ac2, Ac3, Ac4, Ac5, Ac6, Ac7⟩ := cells_8 (row_keep B1 HA.out)
      obtain ⟨Zc0, Zc1, Zc2, Zc3, Zc4, Zc5, Zc6, Zc7⟩ := cells_8 (row_keep B1 HZ.out)
      go_region_with (first | (go_at_call 23; refine (CW.out _ (below_step HB.out B1)).mono ?_; rintro e wq ⟨aw4, cw4, rfl, mm⟩; replace B1 : Below v5w.heap.size v5w wq := below_step B1 mm.2; have S4 : Hid (SlRd intR wq aw4 d) := owned_entd (owned_made mm); clear mm; clear Ac0 Zc0 Ac1 Zc1 Ac2 Zc2 Ac3 Zc3 Ac4 Zc4 Ac5 Zc5 Ac6 Zc6 Ac7 Zc7; obtain ⟨Ac0, Ac1, Ac2, Ac3, Ac4, Ac5, Ac6, Ac7⟩ := cells_8 (row_keep B1 HA.out); obtain ⟨Zc0, Zc1, Zc2, Zc3, Zc4, Zc5, Zc6, Zc7⟩ := cells_8 (row_keep B1 HZ.out)) | (go_at_call 24; refine (eqEntry_rep f0 f1 f3 f4 f5 f6 f2 d aw2 aw4 cw2 cw4 _ (slrd_next HX1.out B1) S4.out (by omega)).mono ?_; rintro e wr ⟨rfl, mb⟩; have B2 : Below v5w.heap.size v5w wr := below_step B1 mb; clear mb))
      all_goals go_wp2_with fail
      all_goals go_meet
      all_goals exact ⟨rfl, B2⟩
    case rest =>
      obtain ⟨rfl, bq⟩ := hcut
      obtain ⟨v6w, hwn⟩ : ∃ x, x = wc := ⟨_, rfl⟩
      subst hwn
      replace b0 := below_step b0 bq
      replace A := row_keep bq A
      replace ZX1 := row_keep bq ZX1
      replace X1 := owned_next X1 bq
      clear bq
      clear X1 ZX1 A
      go_wp2
      go_ret
      exact ⟨rfl, b0⟩
  · have HS : Hid (szI (entM.bk (f0, f1, f2, f3, f4, f5, f6, d)) 1048576 = -1) := szI_no hf
    rw [HS.out]
    go_wp2
    go_ret
    exact ⟨rfl, b0⟩

set_option maxRecDepth 100000 in
theorem lifted (os : Os) (started : os.Started) (H : Type) (enc : TypeId × Value → H) :
    ReturnsInHanded {} Try.checked os 4 .any (Rows.fnExactEntryOkSpec.pre6 enc Try.prog Try.f4 Rows.fnExactEntryOkRow.domain false) (Rows.fnExactEntryOkSpec.post enc Try.prog Try.f4 false true false false) := by
  refine returnsInHanded_of_change (C := Try.checked) own started (by kernel_rfl) Try.func4
    (ChangeSpec.witness6 (enc := enc) (C := Try.checked) false ⟨#[], #[.agg #[.int .i64 0, .int .i64 0, .bool false, .int .i64 0, .int .i64 0, .int .i64 0, .int .i64 0, .slice none 0 0]], []⟩ 8 (by kernel_rfl) (by kernel_rfl) (by kernel_rfl) (by kernel_rfl)) ?_
  intro W base args ds gs before hval0 hW hcnd _
  have hval : ∀ (j : Nat) t v, Try.f4.params[j]? = some t → args[j]? = some v → Value.okWide Try.prog W .any base t v := hval0
  have hW' := hW
  obtain ⟨p, q, hA0, hV, rfl, hfz, hnd⟩ := hW
  have hA : DataW.TrodAll enc Try.prog W 0 (fun _ => true) true Try.f4.params.toList args.toList ds p := hA0
  rw [Try.params4] at hA hval
  obtain ⟨v0, vs0, d0, ds0, p0, q0, hargs, rfl, rfl, h0, r0⟩ := trodAll_cons hA
  obtain ⟨rfl, rfl, rfl⟩ := trodAll_nil r0
  obtain rfl : args = #[v0] := by cases args; simp_all
  obtain ⟨rfl, rfl⟩ := trodVars_none hV
  have k0 := h0
  have lt0 : ∀ x ∈ p0, x.block < W.heap.size := by obtain ⟨m, hm⟩ := k0; exact DataW.trod_lt m _ _ _ hm
  obtain ⟨cs0, x0, rfl, w0⟩ := open_struct Try.underlying38 opens_ent (hval 0 38 v0 rfl rfl) h0
  clear hA0 hval0
  refine (walk cs0 x0 W w0).mono fun e W' ⟨he, bel⟩ => ?_
  subst he
  exact ⟨_, rfl, _, _, _, [], _, [], hW', trodAll_mk1 (shut_bool Try.underlying4 _), (trodAll_cons_mk (Below.trod laidOut (by kernel_rfl) (of_decide_eq_true (by kernel_rfl)) k0 bel lt0) trodAll_mk0), rfl, bel.frame _, fun h => by cases h⟩

theorem over : Rows.fnExactEntryOkRow.holds Try.pinned (OpenSpec.ofChange Rows.fnExactEntryOkSpec) :=
  OpenClaim.holds_of_wide 4 Try.f4 rfl rfl rfl rfl rfl rfl rfl ⟨rfl, rfl, rfl, rfl, rfl⟩ rfl rfl rfl rfl rfl (by kernel_rfl) Try.func4 (by kernel_rfl)
    (of_decide_eq_true (by kernel_rfl)) (by unfold Func.isWrapper; first | (rw [if_pos (by decide +kernel)]; kernel_rfl) | (rw [if_neg (by decide +kernel)]; exact ⟨rfl, rfl⟩))
    (fun os started H enc _ => lifted os started H enc)

theorem proved : Rows.FnExactEntryOkSaid :=
  over
#print axioms proved
end Go.Proofs.Ytlbolnbchijknaa.fnExactEntryOk
