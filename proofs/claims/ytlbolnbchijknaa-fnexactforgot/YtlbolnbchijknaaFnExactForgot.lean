/- At every entry and every number, impl.Forgot answers as spec.Forgot does, field by field, writes into no argument, keeps nothing of one, and its answer owns its memory, behind another call too: the law FnExactForgot returns true and changes nothing that was there. No condition. -/
import Derived.Test.YtlbolnbchijknaaRows
import Derived.Test.YtlbolnbchijknaaOwnedE
import Derived.Test.YtlbolnbchijknaaForgot2
import Derived.Test.YtlbolnbchijknaaHoldFacts
import Derived.WalkKit
import Derived.ProofKit
import Derived.OpenShut
import Derived.ShutString
import Derived.ChangeOld
import Derived.Below
import Derived.Carry
import Derived.Lib.SmallJoins
namespace Go.Proofs.Ytlbolnbchijknaa.fnExactForgot
open Go.ChangeShapes Go.WideShapes Go.ChangeAt Go.RowKit Go.Joins
open Go.ChangeMaps (open_string shut_string)
set_option linter.unusedVariables false

theorem own : ownKnob Try.prog.godebug = none := by kernel_rfl
theorem laidOut : laidOutB Try.prog = true := by kernel_rfl

set_option maxHeartbeats 8000000 in
set_option maxRecDepth 100000 in
theorem walk (cs0 : Array Value) (x0 : RepOf (entR)) (a1 : Int) (w1 : (Lit.int .i64 a1).wf = true) (w : World) (w0 : (entR).rd w cs0.toList x0) :
    Calls Try.prog 7 #[.agg cs0, .int .i64 a1] w fun e w' => e = .returned (.bool true) ∧ Below w.heap.size w w' := by
  obtain ⟨f0, f1, f2, f3, f4, f5, f6, d⟩ := x0
  obtain ⟨ad, cpw, hcs, j0, j1, j3, j4, j5, j6, k1, k2, r3⟩ := ent_rd w0
  simp only at hcs j0 j1 j3 j4 j5 j6 k1 r3
  obtain rfl := arr_of hcs
  clear w0 hcs
  have m3 := Nat.le_trans k1 k2
  have HW : Hid (SlRd intR w ad d) := r3
  have HJ : Hid (In64 f0 ∧ In64 f1 ∧ In64 f3 ∧ In64 f4 ∧ In64 f5 ∧ In64 f6) := ⟨j0, j1, j3, j4, j5, j6⟩
  clear r3 j0 j1 j3 j4 j5 j6 k1 k2
  have A := heap_at w (.cells #[.int .i64 f0, .int .i64 f1, .bool f2, .int .i64 f3, .int .i64 f4, .int .i64 f5, .int .i64 f6, .slice ad d.length cpw] 38)
  have b0 := box_below w (.cells #[.int .i64 f0, .int .i64 f1, .bool f2, .int .i64 f3, .int .i64 f4, .int .i64 f5, .int .i64 f6, .slice ad d.length cpw] 38)
  go_enter Try.func7, Try.ntmps7
  go_wp2_with fail
  generalize w.alloc (.cells #[.int .i64 f0, .int .i64 f1, .bool f2, .int .i64 f3, .int .i64 f4, .int .i64 f5, .int .i64 f6, .slice ad d.length cpw] 38) = v0w at A b0 ⊢
  refine (szEntry_rep f0 f1 f3 f4 f5 f6 f2 d ad cpw 1048576 _ (by decide) (by decide) m3).mono ?_
  rintro e w2 ⟨rfl, bb1⟩
  replace b0 := below_step b0 bb1
  replace A := row_keep bb1 A
  clear bb1
  have hwb := bk_ent (f0, f1, f2, f3, f4, f5, f6, d)
  have hwl : intsM.bk d = d.length := bk_ints7 d
  simp only at hwb
  by_cases hf : ((entM.bk (f0, f1, f2, f3, f4, f5, f6, d) : Nat) : Int) ≤ 1048576
  · have HS : Hid (szI (entM.bk (f0, f1, f2, f3, f4, f5, f6, d)) 1048576 = 1048576 - (entM.bk (f0, f1, f2, f3, f4, f5, f6, d) : Int)) := szI_yes hf
    have hf' : ¬ (1048576 - ((entM.bk (f0, f1, f2, f3, f4, f5, f6, d) : Nat) : Int) < 0) := by omega
    have hdl : d.length ≤ 1048576 := by omega
    have hdb : intsM.bk d ≤ 1048576 := by omega
    have hdc : slcnt intM d ≤ 1048576 := by rw [slcnt_ints]; exact hdl
    rw [HS.out]
    have CW : Hid (∀ W, Below w.heap.size w W → Calls Try.prog 23 #[.agg #[.int .i64 f0, .int .i64 f1, .bool f2, .int .i64 f3, .int .i64 f4, .int .i64 f5, .int .i64 f6, .slice ad d.length cpw]] W fun e w' => ∃ av cv, e = .returned (.agg #[.int .i64 f0, .int .i64 f1, .bool f2, .int .i64 f3, .int .i64 f4, .int .i64 f5, .int .i64 f6, .slice av d.length cv]) ∧ MadeR entR W w' [.int .i64 f0, .int .i64 f1, .bool f2, .int .i64 f3, .int .i64 f4, .int .i64 f5, .int .i64 f6, .slice av d.length cv] (f0, f1, f2, f3, f4, f5, f6, d)) := fun W hb => toEntry_rep f0 f1 f3 f4 f5 f6 f2 d ad cpw W HJ.out.1 HJ.out.2.1 HJ.out.2.2.1 HJ.out.2.2.2.1 HJ.out.2.2.2.2.1 HJ.out.2.2.2.2.2 (slrd_next HW.out hb) hdb
    clear hwb
    have hl := for_small (f0, f1, f2, f3, f4, f5, f6, d) a1
    generalize hQ : forD (f0, f1, f2, f3, f4, f5, f6, d) a1 = Y at hl
    have HQ : Hid (forD (f0, f1, f2, f3, f4, f5, f6, d) a1 = Y) := hQ
    clear hQ
    obtain ⟨p0, p1, p2, p3, p4, p5, p6, pd⟩ := Y
    simp only at hl
    have CSP : Hid (∀ a cap W, SlRd intR W a d → Calls Try.prog 13 #[.agg #[.int .i64 f0, .int .i64 f1, .bool f2, .int .i64 f3, .int .i64 f4, .int .i64 f5, .int .i64 f6, .slice a d.length cap], .int .i64 a1] W fun e w' => ∃ av cv, e = .returned (.agg #[.int .i64 p0, .int .i64 p1, .bool p2, .int .i64 p3, .int .i64 p4, .int .i64 p5, .int .i64 p6, .slice av pd.length cv]) ∧ MadeR entR W w' [.int .i64 p0, .int .i64 p1, .bool p2, .int .i64 p3, .int .i64 p4, .int .i64 p5, .int .i64 p6, .slice av pd.length cv] (p0, p1, p2, p3, p4, p5, p6, pd)) := fun a cap W h => by have := specForgot_any f0 f1 f3 f4 f5 f6 f2 d a cap a1 W HJ.out.1 HJ.out.2.1 HJ.out.2.2.1 HJ.out.2.2.2.1 HJ.out.2.2.2.2.1 HJ.out.2.2.2.2.2 h hdl; rwa [HQ.out] at this
    have CIM : Hid (∀ a cap W, SlRd intR W a d → Calls Try.prog 10 #[.agg #[.int .i64 f0, .int .i64 f1, .bool f2, .int .i64 f3, .int .i64 f4, .int .i64 f5, .int .i64 f6, .slice a d.length cap], .int .i64 a1] W fun e w' => ∃ av cv, e = .returned (.agg #[.int .i64 p0, .int .i64 p1, .bool p2, .int .i64 p3, .int .i64 p4, .int .i64 p5, .int .i64 p6, .slice av pd.length cv]) ∧ MadeR entR W w' [.int .i64 p0, .int .i64 p1, .bool p2, .int .i64 p3, .int .i64 p4, .int .i64 p5, .int .i64 p6, .slice av pd.length cv] (p0, p1, p2, p3, p4, p5, p6, pd)) := fun a cap W h => by have := implForgot_any f0 f1 f3 f4 f5 f6 f2 d a cap a1 W HJ.out.1 HJ.out.2.1 HJ.out.2.2.1 HJ.out.2.2.2.1 HJ.out.2.2.2.2.1 HJ.out.2.2.2.2.2 h hdl; rwa [HQ.out] at this
    clear HQ
    have hLb : intsM.bk pd = pd.length := bk_ints7 pd
    have hLc : slcnt intM pd = pd.length := slcnt_ints pd
    have hq1 : ¬ ((1 : Int) + (slcnt intM pd : Int) < 0) := by omega
    have hq2 : ¬ ((1 : Int) + (slcnt intM d : Int) < 0) := by omega
    have HM1 : Hid ((slmark intM 1 pd).length = pd.length) := slmark_len _ _ _
    obtain ⟨Ac0, Ac1, Ac2, Ac3, Ac4, Ac5, Ac6, Ac7⟩ := cells_8 A
    have Alt := (Array.getElem?_eq_some_iff.1 A).1
    go_wp2_with fail
    clear Ac0 Ac1 Ac2 Ac3 Ac4 Ac5 Ac6 Ac7 Alt
    refine (CW.out _ b0).mono ?_
    rintro e v1w ⟨aw1, cw1, rfl, mm⟩
    have Saw1 : SlRd intR v1w aw1 d := owned_entd (owned_made mm)
    have mb := mm.2
    replace b0 := below_step b0 mb
    replace A := row_keep mb A
    clear mb mm
    obtain ⟨Ac0, Ac1, Ac2, Ac3, Ac4, Ac5, Ac6, Ac7⟩ := cells_8 A
    have Alt := (Array.getElem?_eq_some_iff.1 A).1
    go_wp2_with fail
    clear Ac0 Ac1 Ac2 Ac3 Ac4 Ac5 Ac6 Ac7 Alt
    refine (CSP.out aw1 cw1 _ (Saw1)).mono ?_
    rintro e v2w ⟨av1, cv1, rfl, mm⟩
    clear Saw1
    have PA : w.heap.size < v1w.heap.size ∨ v2w.heap.size ≤ w.heap.size := .inl (Array.getElem?_eq_some_iff.1 A).1
    have Plo : w.heap.size ≤ v1w.heap.size := b0.size
    have P := owned_made (R := entR) mm
    have mbP := mm.2
    replace b0 := below_step b0 mbP
    replace A := row_keep mbP A
    clear mbP mm
    obtain ⟨Ac0, Ac1, Ac2, Ac3, Ac4, Ac5, Ac6, Ac7⟩ := cells_8 A
    have Alt := (Array.getElem?_eq_some_iff.1 A).1
    go_wp2_with fail
    clear Ac0 Ac1 Ac2 Ac3 Ac4 Ac5 Ac6 Ac7 Alt
    have ZP := heap_at v2w (.cells #[.int .i64 p0, .int .i64 p1, .bool p2, .int .i64 p3, .int .i64 p4, .int .i64 p5, .int .i64 p6, .slice av1 pd.length cv1] 26)
    have bzZP := box_below v2w (.cells #[.int .i64 p0, .int .i64 p1, .bool p2, .int .i64 p3, .int .i64 p4, .int .i64 p5, .int .i64 p6, .slice av1 pd.length cv1] 26)
    have PZP : v2w.heap.size < v1w.heap.size ∨ v2w.heap.size ≤ v2w.heap.size := .inr P.2
    replace b0 := below_step b0 bzZP
    replace A := row_keep bzZP A
    replace P := owned_next P bzZP
    clear bzZP
    generalize v2w.alloc (.cells #[.int .i64 p0, .int .i64 p1, .bool p2, .int .i64 p3, .int .i64 p4, .int .i64 p5, .int .i64 p6, .slice av1 pd.length cv1] 26) = v3w at b0 A ZP P ⊢
    refine (CW.out _ b0).mono ?_
    rintro e v4w ⟨aw2, cw2, rfl, mm⟩
    have X1A : w.heap.size < v3w.heap.size ∨ v4w.heap.size ≤ w.heap.size := .inl (Array.getElem?_eq_some_iff.1 A).1
    have X1ZP : v2w.heap.size < v3w.heap.size ∨ v4w.heap.size ≤ v2w.heap.size := .inl (Array.getElem?_eq_some_iff.1 ZP).1
    have PX1 : v2w.heap.size ≤ v3w.heap.size := P.2
    have X1lo : w.heap.size ≤ v3w.heap.size := b0.size
    have X1 := owned_made (R := entR) mm
    have mbX1 := mm.2
    replace b0 := below_step b0 mbX1
    replace A := row_keep mbX1 A
    replace ZP := row_keep mbX1 ZP
    replace P := owned_next P mbX1
    clear mbX1 mm
    obtain ⟨Ac0, Ac1, Ac2, Ac3, Ac4, Ac5, Ac6, Ac7⟩ := cells_8 A
    have Alt := (Array.getElem?_eq_some_iff.1 A).1
    obtain ⟨ZPc0, ZPc1, ZPc2, ZPc3, ZPc4, ZPc5, ZPc6, ZPc7⟩ := cells_8 ZP
    have ZPlt := (Array.getElem?_eq_some_iff.1 ZP).1
    go_wp2_with fail
    clear Ac0 Ac1 Ac2 Ac3 Ac4 Ac5 Ac6 Ac7 Alt ZPc0 ZPc1 ZPc2 ZPc3 ZPc4 ZPc5 ZPc6 ZPc7 ZPlt
    have ZX1 := heap_at v4w (.cells #[.int .i64 f0, .int .i64 f1, .bool f2, .int .i64 f3, .int .i64 f4, .int .i64 f5, .int .i64 f6, .slice aw2 d.length cw2] 26)
    have bzZX1 := box_below v4w (.cells #[.int .i64 f0, .int .i64 f1, .bool f2, .int .i64 f3, .int .i64 f4, .int .i64 f5, .int .i64 f6, .slice aw2 d.length cw2] 26)
    have PZX1 : v4w.heap.size < v1w.heap.size ∨ v2w.heap.size ≤ v4w.heap.size := .inr P.2
    have X1ZX1 : v4w.heap.size < v3w.heap.size ∨ v4w.heap.size ≤ v4w.heap.size := .inr X1.2
    replace b0 := below_step b0 bzZX1
    replace A := row_keep bzZX1 A
    replace ZP := row_keep bzZX1 ZP
    replace P := owned_next P bzZX1
    replace X1 := owned_next X1 bzZX1
    clear bzZX1
    generalize v4w.alloc (.cells #[.int .i64 f0, .int .i64 f1, .bool f2, .int .i64 f3, .int .i64 f4, .int .i64 f5, .int .i64 f6, .slice aw2 d.length cw2] 26) = v5w at b0 A ZP ZX1 P X1 ⊢
    refine (CIM.out aw2 cw2 _ (owned_entd X1)).mono ?_
    rintro e v6w ⟨av3, cv3, rfl, mm⟩
    have GA : w.heap.size < v5w.heap.size ∨ v6w.heap.size ≤ w.heap.size := .inl (Array.getElem?_eq_some_iff.1 A).1
    have GZP : v2w.heap.size < v5w.heap.size ∨ v6w.heap.size ≤ v2w.heap.size := .inl (Array.getElem?_eq_some_iff.1 ZP).1
    have GZX1 : v4w.heap.size < v5w.heap.size ∨ v6w.heap.size ≤ v4w.heap.size := .inl (Array.getElem?_eq_some_iff.1 ZX1).1
    have PG : v2w.heap.size ≤ v5w.heap.size := P.2
    have X1G : v4w.heap.size ≤ v5w.heap.size := X1.2
    have Glo : w.heap.size ≤ v5w.heap.size := b0.size
    have G := owned_made (R := entR) mm
    have mbG := mm.2
    replace b0 := below_step b0 mbG
    replace A := row_keep mbG A
    replace ZP := row_keep mbG ZP
    replace ZX1 := row_keep mbG ZX1
    replace P := owned_next P mbG
    replace X1 := owned_next X1 mbG
    clear mbG mm
    obtain ⟨Ac0, Ac1, Ac2, Ac3, Ac4, Ac5, Ac6, Ac7⟩ := cells_8 A
    have Alt := (Array.getElem?_eq_some_iff.1 A).1
    obtain ⟨ZPc0, ZPc1, ZPc2, ZPc3, ZPc4, ZPc5, ZPc6, ZPc7⟩ := cells_8 ZP
    have ZPlt := (Array.getElem?_eq_some_iff.1 ZP).1
    obtain ⟨ZX1c0, ZX1c1, ZX1c2, ZX1c3, ZX1c4, ZX1c5, ZX1c6, ZX1c7⟩ := cells_8 ZX1
    have ZX1lt := (Array.getElem?_eq_some_iff.1 ZX1).1
    go_wp2_with fail
    clear Ac0 Ac1 Ac2 Ac3 Ac4 Ac5 Ac6 Ac7 Alt ZPc0 ZPc1 ZPc2 ZPc3 ZPc4 ZPc5 ZPc6 ZPc7 ZPlt ZX1c0 ZX1c1 ZX1c2 ZX1c3 ZX1c4 ZX1c5 ZX1c6 ZX1c7 ZX1lt
    have ZG := heap_at v6w (.cells #[.int .i64 p0, .int .i64 p1, .bool p2, .int .i64 p3, .int .i64 p4, .int .i64 p5, .int .i64 p6, .slice av3 pd.length cv3] 26)
    have bzZG := box_below v6w (.cells #[.int .i64 p0, .int .i64 p1, .bool p2, .int .i64 p3, .int .i64 p4, .int .i64 p5, .int .i64 p6, .slice av3 pd.length cv3] 26)
    have PZG : v6w.heap.size < v1w.heap.size ∨ v2w.heap.size ≤ v6w.heap.size := .inr P.2
    have X1ZG : v6w.heap.size < v3w.heap.size ∨ v4w.heap.size ≤ v6w.heap.size := .inr X1.2
    have GZG : v6w.heap.size < v5w.heap.size ∨ v6w.heap.size ≤ v6w.heap.size := .inr G.2
    replace b0 := below_step b0 bzZG
    replace A := row_keep bzZG A
    replace ZP := row_keep bzZG ZP
    replace ZX1 := row_keep bzZG ZX1
    replace P := owned_next P bzZG
    replace X1 := owned_next X1 bzZG
    replace G := owned_next G bzZG
    clear bzZG
    generalize v6w.alloc (.cells #[.int .i64 p0, .int .i64 p1, .bool p2, .int .i64 p3, .int .i64 p4, .int .i64 p5, .int .i64 p6, .slice av3 pd.length cv3] 26) = v7w at b0 A ZP ZX1 ZG P X1 G ⊢
    refine (eqEntry_rep p0 p1 p3 p4 p5 p6 p2 pd av3 av1 cv3 cv1 _ (owned_entd G) (owned_entd P) (by omega)).mono ?_
    rintro e v8w ⟨rfl, bq⟩
    replace b0 := below_step b0 bq
    replace A := row_keep bq A
    replace ZP := row_keep bq ZP
    replace ZX1 := row_keep bq ZX1
    replace ZG := row_keep bq ZG
    replace P := owned_next P bq
    replace X1 := owned_next X1 bq
    replace G := owned_next G bq
    clear bq
    obtain ⟨Ac0, Ac1, Ac2, Ac3, Ac4, Ac5, Ac6, Ac7⟩ := cells_8 A
    have Alt := (Array.getElem?_eq_some_iff.1 A).1
    obtain ⟨ZPc0, ZPc1, ZPc2, ZPc3, ZPc4, ZPc5, ZPc6, ZPc7⟩ := cells_8 ZP
    have ZPlt := (Array.getElem?_eq_some_iff.1 ZP).1
    obtain ⟨ZX1c0, ZX1c1, ZX1c2, ZX1c3, ZX1c4, ZX1c5, ZX1c6, ZX1c7⟩ := cells_8 ZX1
    have ZX1lt := (Array.getElem?_eq_some_iff.1 ZX1).1
    obtain ⟨ZGc0, ZGc1, ZGc2, ZGc3, ZGc4, ZGc5, ZGc6, ZGc7⟩ := cells_8 ZG
    have ZGlt := (Array.getElem?_eq_some_iff.1 ZG).1
    go_wp2_with fail
    clear Ac0 Ac1 Ac2 Ac3 Ac4 Ac5 Ac6 Ac7 Alt ZPc0 ZPc1 ZPc2 ZPc3 ZPc4 ZPc5 ZPc6 ZPc7 ZPlt ZX1c0 ZX1c1 ZX1c2 ZX1c3 ZX1c4 ZX1c5 ZX1c6 ZX1c7 ZX1lt ZGc0 ZGc1 ZGc2 ZGc3 ZGc4 ZGc5 ZGc6 ZGc7 ZGlt
    go_cut [35] from 31 to 35 (fun q wx => q = .bool false ∧ Below v8w.heap.size v8w wx)
    case first =>
      have B1 : Below v8w.heap.size v8w v8w.drew := (Below.refl _ _).drew
      have HA : Hid _ := A
      have HZ : Hid _ := ZX1
      have HX1 : Hid _ := owned_entd X1
      have HB : Hid _ := b0
      clear b0 A ZP ZX1 ZG P X1 G
      obtain ⟨Ac0, Ac1, Ac2, Ac3, Ac4, Ac5, Ac6, Ac7⟩ := cells_8 (row_keep B1 HA.out)
      obtain ⟨Zc0, Zc1, Zc2, Zc3, Zc4, Zc5, Zc6, Zc7⟩ := cells_8 (row_keep B1 HZ.out)
      go_region_with (first | (go_at_call 23; refine (CW.out _ (below_step HB.out B1)).mono ?_; rintro e wq ⟨aw4, cw4, rfl, mm⟩; replace B1 : Below v8w.heap.size v8w wq := below_step B1 mm.2; have S4 : Hid (SlRd intR wq aw4 d) := owned_entd (owned_made mm); clear mm; clear Ac0 Zc0 Ac1 Zc1 Ac2 Zc2 Ac3 Zc3 Ac4 Zc4 Ac5 Zc5 Ac6 Zc6 Ac7 Zc7; obtain ⟨Ac0, Ac1, Ac2, Ac3, Ac4, Ac5, Ac6, Ac7⟩ := cells_8 (row_keep B1 HA.out); obtain ⟨Zc0, Zc1, Zc2, Zc3, Zc4, Zc5, Zc6, Zc7⟩ := cells_8 (row_keep B1 HZ.out)) | (go_at_call 24; refine (eqEntry_rep f0 f1 f3 f4 f5 f6 f2 d aw2 aw4 cw2 cw4 _ (slrd_next HX1.out B1) S4.out (by omega)).mono ?_; rintro e wr ⟨rfl, mb⟩; have B2 : Below v8w.heap.size v8w wr := below_step B1 mb; clear mb))
      all_goals go_wp2_with fail
      all_goals go_meet
      all_goals exact ⟨rfl, B2⟩
    case rest =>
      obtain ⟨rfl, bq⟩ := hcut
      obtain ⟨v9w, hwn⟩ : ∃ x, x = wc := ⟨_, rfl⟩
      subst hwn
      replace b0 := below_step b0 bq
      replace A := row_keep bq A
      replace ZP := row_keep bq ZP
      replace ZX1 := row_keep bq ZX1
      replace ZG := row_keep bq ZG
      replace P := owned_next P bq
      replace X1 := owned_next X1 bq
      replace G := owned_next G bq
      clear bq
      obtain ⟨Ac0, Ac1, Ac2, Ac3, Ac4, Ac5, Ac6, Ac7⟩ := cells_8 A
      have Alt := (Array.getElem?_eq_some_iff.1 A).1
      obtain ⟨ZPc0, ZPc1, ZPc2, ZPc3, ZPc4, ZPc5, ZPc6, ZPc7⟩ := cells_8 ZP
      have ZPlt := (Array.getElem?_eq_some_iff.1 ZP).1
      obtain ⟨ZX1c0, ZX1c1, ZX1c2, ZX1c3, ZX1c4, ZX1c5, ZX1c6, ZX1c7⟩ := cells_8 ZX1
      have ZX1lt := (Array.getElem?_eq_some_iff.1 ZX1).1
      obtain ⟨ZGc0, ZGc1, ZGc2, ZGc3, ZGc4, ZGc5, ZGc6, ZGc7⟩ := cells_8 ZG
      have ZGlt := (Array.getElem?_eq_some_iff.1 ZG).1
      go_wp2_with fail
      clear Ac0 Ac1 Ac2 Ac3 Ac4 Ac5 Ac6 Ac7 Alt ZPc0 ZPc1 ZPc2 ZPc3 ZPc4 ZPc5 ZPc6 ZPc7 ZPlt ZX1c0 ZX1c1 ZX1c2 ZX1c3 ZX1c4 ZX1c5 ZX1c6 ZX1c7 ZX1lt ZGc0 ZGc1 ZGc2 ZGc3 ZGc4 ZGc5 ZGc6 ZGc7 ZGlt
      refine (markEntry_rep _ f0 f1 f3 f4 f5 f6 f2 _ 1 d _ (by decide) (by decide) (by omega) (ent_intsd X1.1)).mono ?_
      rintro e v10w ⟨rfl, -, ch⟩
      replace b0 := chg_b0 b0 ch X1lo
      replace A := row_chg A ch X1A
      replace ZP := row_chg ZP ch X1ZP
      replace ZX1 := row_chg ZX1 ch X1ZX1
      replace ZG := row_chg ZG ch X1ZG
      replace P := owned_chg P ch (.inl PX1)
      replace G := owned_chg G ch (.inr X1G)
      clear ch X1
      obtain ⟨Ac0, Ac1, Ac2, Ac3, Ac4, Ac5, Ac6, Ac7⟩ := cells_8 A
      have Alt := (Array.getElem?_eq_some_iff.1 A).1
      obtain ⟨ZPc0, ZPc1, ZPc2, ZPc3, ZPc4, ZPc5, ZPc6, ZPc7⟩ := cells_8 ZP
      have ZPlt := (Array.getElem?_eq_some_iff.1 ZP).1
      obtain ⟨ZX1c0, ZX1c1, ZX1c2, ZX1c3, ZX1c4, ZX1c5, ZX1c6, ZX1c7⟩ := cells_8 ZX1
      have ZX1lt := (Array.getElem?_eq_some_iff.1 ZX1).1
      obtain ⟨ZGc0, ZGc1, ZGc2, ZGc3, ZGc4, ZGc5, ZGc6, ZGc7⟩ := cells_8 ZG
      have ZGlt := (Array.getElem?_eq_some_iff.1 ZG).1
      go_wp2_with fail
      clear Ac0 Ac1 Ac2 Ac3 Ac4 Ac5 Ac6 Ac7 Alt ZPc0 ZPc1 ZPc2 ZPc3 ZPc4 ZPc5 ZPc6 ZPc7 ZPlt ZX1c0 ZX1c1 ZX1c2 ZX1c3 ZX1c4 ZX1c5 ZX1c6 ZX1c7 ZX1lt ZGc0 ZGc1 ZGc2 ZGc3 ZGc4 ZGc5 ZGc6 ZGc7 ZGlt
      refine (eqEntry_rep p0 p1 p3 p4 p5 p6 p2 pd av3 av1 cv3 cv1 _ (owned_entd G) (owned_entd P) (by omega)).mono ?_
      rintro e v11w ⟨rfl, bq⟩
      replace b0 := below_step b0 bq
      replace A := row_keep bq A
      replace ZP := row_keep bq ZP
      replace ZX1 := row_keep bq ZX1
      replace ZG := row_keep bq ZG
      replace P := owned_next P bq
      replace G := owned_next G bq
      clear bq
      obtain ⟨Ac0, Ac1, Ac2, Ac3, Ac4, Ac5, Ac6, Ac7⟩ := cells_8 A
      have Alt := (Array.getElem?_eq_some_iff.1 A).1
      obtain ⟨ZPc0, ZPc1, ZPc2, ZPc3, ZPc4, ZPc5, ZPc6, ZPc7⟩ := cells_8 ZP
      have ZPlt := (Array.getElem?_eq_some_iff.1 ZP).1
      obtain ⟨ZX1c0, ZX1c1, ZX1c2, ZX1c3, ZX1c4, ZX1c5, ZX1c6, ZX1c7⟩ := cells_8 ZX1
      have ZX1lt := (Array.getElem?_eq_some_iff.1 ZX1).1
      obtain ⟨ZGc0, ZGc1, ZGc2, ZGc3, ZGc4, ZGc5, ZGc6, ZGc7⟩ := cells_8 ZG
      have ZGlt := (Array.getElem?_eq_some_iff.1 ZG).1
      go_wp2_with fail
      clear Ac0 Ac1 Ac2 Ac3 Ac4 Ac5 Ac6 Ac7 Alt ZPc0 ZPc1 ZPc2 ZPc3 ZPc4 ZPc5 ZPc6 ZPc7 ZPlt ZX1c0 ZX1c1 ZX1c2 ZX1c3 ZX1c4 ZX1c5 ZX1c6 ZX1c7 ZX1lt ZGc0 ZGc1 ZGc2 ZGc3 ZGc4 ZGc5 ZGc6 ZGc7 ZGlt
      refine (markEntry_rep _ p0 p1 p3 p4 p5 p6 p2 _ 1 pd _ (by decide) (by decide) (by omega) (ent_intsd G.1)).mono ?_
      rintro e v12w ⟨rfl, gm, ch⟩
      replace b0 := chg_b0 b0 ch Glo
      replace A := row_chg A ch GA
      replace ZP := row_chg ZP ch GZP
      replace ZX1 := row_chg ZX1 ch GZX1
      replace ZG := row_chg ZG ch GZG
      replace P := owned_chg P ch (.inl PG)
      have GM := And.intro gm (Nat.le_trans G.2 ch.size)
      clear ch G gm
      obtain ⟨lo9, hlo9⟩ : ∃ z, z = v5w.heap.size := ⟨_, rfl⟩
      obtain ⟨hi9, hhi9⟩ : ∃ z, z = v6w.heap.size := ⟨_, rfl⟩
      replace GM : Owned intsR lo9 hi9 v12w [.slice av3 pd.length cv3] (slmark intM 1 pd) := by rw [hlo9, hhi9]; exact GM
      clear hlo9 hhi9
      obtain ⟨Ac0, Ac1, Ac2, Ac3, Ac4, Ac5, Ac6, Ac7⟩ := cells_8 A
      have Alt := (Array.getElem?_eq_some_iff.1 A).1
      obtain ⟨ZPc0, ZPc1, ZPc2, ZPc3, ZPc4, ZPc5, ZPc6, ZPc7⟩ := cells_8 ZP
      have ZPlt := (Array.getElem?_eq_some_iff.1 ZP).1
      obtain ⟨ZX1c0, ZX1c1, ZX1c2, ZX1c3, ZX1c4, ZX1c5, ZX1c6, ZX1c7⟩ := cells_8 ZX1
      have ZX1lt := (Array.getElem?_eq_some_iff.1 ZX1).1
      obtain ⟨ZGc0, ZGc1, ZGc2, ZGc3, ZGc4, ZGc5, ZGc6, ZGc7⟩ := cells_8 ZG
      have ZGlt := (Array.getElem?_eq_some_iff.1 ZG).1
      go_wp2_with fail
      clear Ac0 Ac1 Ac2 Ac3 Ac4 Ac5 Ac6 Ac7 Alt ZPc0 ZPc1 ZPc2 ZPc3 ZPc4 ZPc5 ZPc6 ZPc7 ZPlt ZX1c0 ZX1c1 ZX1c2 ZX1c3 ZX1c4 ZX1c5 ZX1c6 ZX1c7 ZX1lt ZGc0 ZGc1 ZGc2 ZGc3 ZGc4 ZGc5 ZGc6 ZGc7 ZGlt
      have S1 : SlRd intR _ av3 (slmark intM 1 pd) := owned_ints (lo := lo9) (hi := hi9) (cap := cv3) (by rw [HM1.out]; exact GM)
      refine (heldEntry_rep p0 p1 p3 p4 p5 p6 p2 av3 cv3 1 pd _ (by decide) (by decide) (by omega) S1).mono ?_
      clear S1
      rintro e v13w ⟨rfl, bq⟩
      replace b0 := below_step b0 bq
      replace A := row_keep bq A
      replace ZP := row_keep bq ZP
      replace ZX1 := row_keep bq ZX1
      replace ZG := row_keep bq ZG
      replace P := owned_next P bq
      replace GM := owned_next GM bq
      clear bq
      obtain ⟨Ac0, Ac1, Ac2, Ac3, Ac4, Ac5, Ac6, Ac7⟩ := cells_8 A
      have Alt := (Array.getElem?_eq_some_iff.1 A).1
      obtain ⟨ZPc0, ZPc1, ZPc2, ZPc3, ZPc4, ZPc5, ZPc6, ZPc7⟩ := cells_8 ZP
      have ZPlt := (Array.getElem?_eq_some_iff.1 ZP).1
      obtain ⟨ZX1c0, ZX1c1, ZX1c2, ZX1c3, ZX1c4, ZX1c5, ZX1c6, ZX1c7⟩ := cells_8 ZX1
      have ZX1lt := (Array.getElem?_eq_some_iff.1 ZX1).1
      obtain ⟨ZGc0, ZGc1, ZGc2, ZGc3, ZGc4, ZGc5, ZGc6, ZGc7⟩ := cells_8 ZG
      have ZGlt := (Array.getElem?_eq_some_iff.1 ZG).1
      go_wp2_with fail
      clear Ac0 Ac1 Ac2 Ac3 Ac4 Ac5 Ac6 Ac7 Alt ZPc0 ZPc1 ZPc2 ZPc3 ZPc4 ZPc5 ZPc6 ZPc7 ZPlt ZX1c0 ZX1c1 ZX1c2 ZX1c3 ZX1c4 ZX1c5 ZX1c6 ZX1c7 ZX1lt ZGc0 ZGc1 ZGc2 ZGc3 ZGc4 ZGc5 ZGc6 ZGc7 ZGlt
      refine (CW.out _ b0).mono ?_
      rintro e v14w ⟨aw5, cw5, rfl, mm⟩
      have Saw5 : SlRd intR v14w aw5 d := owned_entd (owned_made mm)
      have mb := mm.2
      replace b0 := below_step b0 mb
      replace A := row_keep mb A
      replace ZP := row_keep mb ZP
      replace ZX1 := row_keep mb ZX1
      replace ZG := row_keep mb ZG
      replace P := owned_next P mb
      replace GM := owned_next GM mb
      clear mb mm
      obtain ⟨Ac0, Ac1, Ac2, Ac3, Ac4, Ac5, Ac6, Ac7⟩ := cells_8 A
      have Alt := (Array.getElem?_eq_some_iff.1 A).1
      obtain ⟨ZPc0, ZPc1, ZPc2, ZPc3, ZPc4, ZPc5, ZPc6, ZPc7⟩ := cells_8 ZP
      have ZPlt := (Array.getElem?_eq_some_iff.1 ZP).1
      obtain ⟨ZX1c0, ZX1c1, ZX1c2, ZX1c3, ZX1c4, ZX1c5, ZX1c6, ZX1c7⟩ := cells_8 ZX1
      have ZX1lt := (Array.getElem?_eq_some_iff.1 ZX1).1
      obtain ⟨ZGc0, ZGc1, ZGc2, ZGc3, ZGc4, ZGc5, ZGc6, ZGc7⟩ := cells_8 ZG
      have ZGlt := (Array.getElem?_eq_some_iff.1 ZG).1
      go_wp2_with fail
      clear Ac0 Ac1 Ac2 Ac3 Ac4 Ac5 Ac6 Ac7 Alt ZPc0 ZPc1 ZPc2 ZPc3 ZPc4 ZPc5 ZPc6 ZPc7 ZPlt ZX1c0 ZX1c1 ZX1c2 ZX1c3 ZX1c4 ZX1c5 ZX1c6 ZX1c7 ZX1lt ZGc0 ZGc1 ZGc2 ZGc3 ZGc4 ZGc5 ZGc6 ZGc7 ZGlt
      refine (CIM.out aw5 cw5 _ (Saw5)).mono ?_
      rintro e v15w ⟨av6, cv6, rfl, mm⟩
      clear Saw5
      have HA : w.heap.size < v14w.heap.size ∨ v15w.heap.size ≤ w.heap.size := .inl (Array.getElem?_eq_some_iff.1 A).1
      have HZP : v2w.heap.size < v14w.heap.size ∨ v15w.heap.size ≤ v2w.heap.size := .inl (Array.getElem?_eq_some_iff.1 ZP).1
      have HZX1 : v4w.heap.size < v14w.heap.size ∨ v15w.heap.size ≤ v4w.heap.size := .inl (Array.getElem?_eq_some_iff.1 ZX1).1
      have HZG : v6w.heap.size < v14w.heap.size ∨ v15w.heap.size ≤ v6w.heap.size := .inl (Array.getElem?_eq_some_iff.1 ZG).1
      have PH : v2w.heap.size ≤ v14w.heap.size := P.2
      have GMH : hi9 ≤ v14w.heap.size := GM.2
      have Hlo : w.heap.size ≤ v14w.heap.size := b0.size
      have H := owned_made (R := entR) mm
      have mbH := mm.2
      replace b0 := below_step b0 mbH
      replace A := row_keep mbH A
      replace ZP := row_keep mbH ZP
      replace ZX1 := row_keep mbH ZX1
      replace ZG := row_keep mbH ZG
      replace P := owned_next P mbH
      replace GM := owned_next GM mbH
      clear mbH mm
      obtain ⟨Ac0, Ac1, Ac2, Ac3, Ac4, Ac5, Ac6, Ac7⟩ := cells_8 A
      have Alt := (Array.getElem?_eq_some_iff.1 A).1
      obtain ⟨ZPc0, ZPc1, ZPc2, ZPc3, ZPc4, ZPc5, ZPc6, ZPc7⟩ := cells_8 ZP
      have ZPlt := (Array.getElem?_eq_some_iff.1 ZP).1
      obtain ⟨ZX1c0, ZX1c1, ZX1c2, ZX1c3, ZX1c4, ZX1c5, ZX1c6, ZX1c7⟩ := cells_8 ZX1
      have ZX1lt := (Array.getElem?_eq_some_iff.1 ZX1).1
      obtain ⟨ZGc0, ZGc1, ZGc2, ZGc3, ZGc4, ZGc5, ZGc6, ZGc7⟩ := cells_8 ZG
      have ZGlt := (Array.getElem?_eq_some_iff.1 ZG).1
      go_wp2_with fail
      clear Ac0 Ac1 Ac2 Ac3 Ac4 Ac5 Ac6 Ac7 Alt ZPc0 ZPc1 ZPc2 ZPc3 ZPc4 ZPc5 ZPc6 ZPc7 ZPlt ZX1c0 ZX1c1 ZX1c2 ZX1c3 ZX1c4 ZX1c5 ZX1c6 ZX1c7 ZX1lt ZGc0 ZGc1 ZGc2 ZGc3 ZGc4 ZGc5 ZGc6 ZGc7 ZGlt
      have ZH := heap_at v15w (.cells #[.int .i64 p0, .int .i64 p1, .bool p2, .int .i64 p3, .int .i64 p4, .int .i64 p5, .int .i64 p6, .slice av6 pd.length cv6] 26)
      have bzZH := box_below v15w (.cells #[.int .i64 p0, .int .i64 p1, .bool p2, .int .i64 p3, .int .i64 p4, .int .i64 p5, .int .i64 p6, .slice av6 pd.length cv6] 26)
      have PZH : v15w.heap.size < v1w.heap.size ∨ v2w.heap.size ≤ v15w.heap.size := .inr P.2
      have GMZH : v15w.heap.size < lo9 ∨ hi9 ≤ v15w.heap.size := .inr GM.2
      have HZH : v15w.heap.size < v14w.heap.size ∨ v15w.heap.size ≤ v15w.heap.size := .inr H.2
      replace b0 := below_step b0 bzZH
      replace A := row_keep bzZH A
      replace ZP := row_keep bzZH ZP
      replace ZX1 := row_keep bzZH ZX1
      replace ZG := row_keep bzZH ZG
      replace P := owned_next P bzZH
      replace GM := owned_next GM bzZH
      replace H := owned_next H bzZH
      clear bzZH
      generalize v15w.alloc (.cells #[.int .i64 p0, .int .i64 p1, .bool p2, .int .i64 p3, .int .i64 p4, .int .i64 p5, .int .i64 p6, .slice av6 pd.length cv6] 26) = v16w at b0 A ZP ZX1 ZG ZH P GM H ⊢
      refine (eqEntry_rep p0 p1 p3 p4 p5 p6 p2 pd av6 av1 cv6 cv1 _ (owned_entd H) (owned_entd P) (by omega)).mono ?_
      rintro e v17w ⟨rfl, bq⟩
      replace b0 := below_step b0 bq
      replace A := row_keep bq A
      replace ZP := row_keep bq ZP
      replace ZX1 := row_keep bq ZX1
      replace ZG := row_keep bq ZG
      replace ZH := row_keep bq ZH
      replace P := owned_next P bq
      replace GM := owned_next GM bq
      replace H := owned_next H bq
      clear bq
      obtain ⟨Ac0, Ac1, Ac2, Ac3, Ac4, Ac5, Ac6, Ac7⟩ := cells_8 A
      have Alt := (Array.getElem?_eq_some_iff.1 A).1
      obtain ⟨ZPc0, ZPc1, ZPc2, ZPc3, ZPc4, ZPc5, ZPc6, ZPc7⟩ := cells_8 ZP
      have ZPlt := (Array.getElem?_eq_some_iff.1 ZP).1
      obtain ⟨ZX1c0, ZX1c1, ZX1c2, ZX1c3, ZX1c4, ZX1c5, ZX1c6, ZX1c7⟩ := cells_8 ZX1
      have ZX1lt := (Array.getElem?_eq_some_iff.1 ZX1).1
      obtain ⟨ZGc0, ZGc1, ZGc2, ZGc3, ZGc4, ZGc5, ZGc6, ZGc7⟩ := cells_8 ZG
      have ZGlt := (Array.getElem?_eq_some_iff.1 ZG).1
      obtain ⟨ZHc0, ZHc1, ZHc2, ZHc3, ZHc4, ZHc5, ZHc6, ZHc7⟩ := cells_8 ZH
      have ZHlt := (Array.getElem?_eq_some_iff.1 ZH).1
      go_wp2_with fail
      clear Ac0 Ac1 Ac2 Ac3 Ac4 Ac5 Ac6 Ac7 Alt ZPc0 ZPc1 ZPc2 ZPc3 ZPc4 ZPc5 ZPc6 ZPc7 ZPlt ZX1c0 ZX1c1 ZX1c2 ZX1c3 ZX1c4 ZX1c5 ZX1c6 ZX1c7 ZX1lt ZGc0 ZGc1 ZGc2 ZGc3 ZGc4 ZGc5 ZGc6 ZGc7 ZGlt ZHc0 ZHc1 ZHc2 ZHc3 ZHc4 ZHc5 ZHc6 ZHc7 ZHlt
      have S1 : SlRd intR _ av3 (slmark intM 1 pd) := owned_ints (lo := lo9) (hi := hi9) (cap := cv3) (by rw [HM1.out]; exact GM)
      refine (heldEntry_rep p0 p1 p3 p4 p5 p6 p2 av3 cv3 1 pd _ (by decide) (by decide) (by omega) S1).mono ?_
      clear S1
      rintro e v18w ⟨rfl, bq⟩
      replace b0 := below_step b0 bq
      replace A := row_keep bq A
      replace ZP := row_keep bq ZP
      replace ZX1 := row_keep bq ZX1
      replace ZG := row_keep bq ZG
      replace ZH := row_keep bq ZH
      replace P := owned_next P bq
      replace GM := owned_next GM bq
      replace H := owned_next H bq
      clear bq
      clear P GM H A ZP ZX1 ZG ZH
      go_wp2
      go_ret
      exact ⟨rfl, b0⟩
  · have HS : Hid (szI (entM.bk (f0, f1, f2, f3, f4, f5, f6, d)) 1048576 = -1) := szI_no hf
    rw [HS.out]
    go_wp2
    go_ret
    exact ⟨rfl, b0⟩

set_option maxRecDepth 100000 in
theorem lifted (os : Os) (started : os.Started) (H : Type) (enc : TypeId × Value → H) :
    ReturnsInHanded {} Try.checked os 7 .any (Rows.fnExactForgotSpec.pre6 enc Try.prog Try.f7 Rows.fnExactForgotRow.domain false) (Rows.fnExactForgotSpec.post enc Try.prog Try.f7 false true false false) := by
  refine returnsInHanded_of_change (C := Try.checked) own started (by kernel_rfl) Try.func7
    (ChangeSpec.witness6 (enc := enc) (C := Try.checked) false ⟨#[], #[.agg #[.int .i64 0, .int .i64 0, .bool false, .int .i64 0, .int .i64 0, .int .i64 0, .int .i64 0, .slice none 0 0], .int .i64 0], []⟩ 8 (by kernel_rfl) (by kernel_rfl) (by kernel_rfl) (by kernel_rfl)) ?_
  intro W base args ds gs before hval0 hW hcnd _
  have hval : ∀ (j : Nat) t v, Try.f7.params[j]? = some t → args[j]? = some v → Value.okWide Try.prog W .any base t v := hval0
  have hW' := hW
  obtain ⟨p, q, hA0, hV, rfl, hfz, hnd⟩ := hW
  have hA : DataW.TrodAll enc Try.prog W 0 (fun _ => true) true Try.f7.params.toList args.toList ds p := hA0
  rw [Try.params7] at hA hval
  obtain ⟨v0, vs0, d0, ds0, p0, q0, hargs, rfl, rfl, h0, r0⟩ := trodAll_cons hA
  obtain ⟨v1, vs1, d1, ds1, p1, q1, rfl, rfl, rfl, h1, r1⟩ := trodAll_cons r0
  obtain ⟨rfl, rfl, rfl⟩ := trodAll_nil r1
  obtain rfl : args = #[v0, v1] := by cases args; simp_all
  obtain ⟨rfl, rfl⟩ := trodVars_none hV
  have k0 := h0
  have lt0 : ∀ x ∈ p0, x.block < W.heap.size := by obtain ⟨m, hm⟩ := k0; exact DataW.trod_lt m _ _ _ hm
  have k1 := h1
  have lt1 : ∀ x ∈ p1, x.block < W.heap.size := by obtain ⟨m, hm⟩ := k1; exact DataW.trod_lt m _ _ _ hm
  obtain ⟨cs0, x0, rfl, w0⟩ := open_struct Try.underlying38 opens_ent (hval 0 38 v0 rfl rfl) h0
  obtain ⟨a1, rfl, e1, f1, w1⟩ := open_int Try.underlying2 (hval 1 2 v1 rfl rfl) h1
  clear hA0 hval0
  refine (walk cs0 x0 a1 w1 W w0).mono fun e W' ⟨he, bel⟩ => ?_
  subst he
  exact ⟨_, rfl, _, _, _, [], _, [], hW', trodAll_mk1 (shut_bool Try.underlying4 _), (trodAll_cons_mk (Below.trod laidOut (by kernel_rfl) (of_decide_eq_true (by kernel_rfl)) k0 bel lt0) (trodAll_cons_mk (Below.trod laidOut (by kernel_rfl) (of_decide_eq_true (by kernel_rfl)) k1 bel lt1) trodAll_mk0)), rfl, bel.frame _, fun h => by cases h⟩

theorem over : Rows.fnExactForgotRow.holds Try.pinned (OpenSpec.ofChange Rows.fnExactForgotSpec) :=
  OpenClaim.holds_of_wide 7 Try.f7 rfl rfl rfl rfl rfl rfl rfl ⟨rfl, rfl, rfl, rfl, rfl⟩ rfl rfl rfl rfl rfl (by kernel_rfl) Try.func7 (by kernel_rfl)
    (of_decide_eq_true (by kernel_rfl)) (by unfold Func.isWrapper; first | (rw [if_pos (by decide +kernel)]; kernel_rfl) | (rw [if_neg (by decide +kernel)]; exact ⟨rfl, rfl⟩))
    (fun os started H enc _ => lifted os started H enc)

theorem proved : Rows.FnExactForgotSaid :=
  over
#print axioms proved
end Go.Proofs.Ytlbolnbchijknaa.fnExactForgot
