/- At every store and every number, impl.Dropped answers as spec.Dropped does, field by field, writes into no argument, keeps nothing of one, and its answer owns its memory, behind another call too: the law FnExactDropped returns true and changes nothing that was there. No condition. -/
import Derived.Test.YtmldilmiihafoaaRows
import Derived.Test.YtmldilmiihafoaaOkSmall
import Derived.WalkKit
import Derived.ProofKit
import Derived.OpenShut
import Derived.ShutString
import Derived.ChangeOld
import Derived.Below
import Derived.Carry
import Derived.Lib.SmallJoins
namespace Go.Proofs.Ytmldilmiihafoaa.fnExactDropped
open Go.ChangeShapes Go.WideShapes Go.ChangeAt Go.RowKit Go.Joins
open Go.ChangeMaps (open_string shut_string)
set_option linter.unusedVariables false

theorem own : ownKnob Try.prog.godebug = none := by kernel_rfl
theorem laidOut : laidOutB Try.prog = true := by kernel_rfl

set_option maxHeartbeats 4000000 in
set_option maxRecDepth 100000 in
theorem walk (cs0 : Array Value) (x0 : RepOf (cacheR)) (a1 : Int) (w1 : (Lit.int .i64 a1).wf = true) (w : World) (w0 : (cacheR).rd w cs0.toList x0) :
    Calls Try.prog 6 #[.agg cs0, .int .i64 a1] w fun e w' => e = .returned (.bool true) ∧ Below w.heap.size w w' := by
  obtain ⟨aa, cap, bb, cp, hcs, l1, l2, l3, l4, r1, r2⟩ := cache_rd w0
  obtain rfl := arr_of hcs
  clear w0 hcs
  have m1 := Nat.le_trans l1 l2
  have m2 := Nat.le_trans l3 l4
  have HR : Hid (SlRd waysR w aa x0.1 ∧ SlRd intR w bb x0.2) := ⟨r1, r2⟩
  clear l1 l2 l3 l4 r1 r2
  have b0 := Below.refl w.heap.size w
  go_enter Try.func6, Try.ntmps6
  go_wp2_with fail
  have A := heap_at w (.cells #[.slice aa x0.1.length cap, .slice bb x0.2.length cp] 48)
  have bzA := box_below w (.cells #[.slice aa x0.1.length cap, .slice bb x0.2.length cp] 48)
  replace b0 := below_step b0 bzA
  clear bzA
  generalize w.alloc (.cells #[.slice aa x0.1.length cap, .slice bb x0.2.length cp] 48) = v1w at b0 A ⊢
  have R1 := two_next0 HR.out b0
  refine (szCache_rep aa bb x0 cap cp 1048576 _ R1.1 (by decide) (by decide) m1 m2).mono ?_
  clear R1
  rintro e w2 ⟨rfl, bb1⟩
  replace b0 := below_step b0 bb1
  replace A := row_keep bb1 A
  clear bb1
  by_cases hf : ((cacheM.bk x0 : Nat) : Int) ≤ 1048576
  · have HS : Hid (szI (cacheM.bk x0) 1048576 = 1048576 - (cacheM.bk x0 : Int)) := szI_yes hf
    have hf' : ¬ (1048576 - ((cacheM.bk x0 : Nat) : Int) < 0) := by omega
    have hbk : cacheM.bk x0 ≤ 1048576 := by omega
    obtain ⟨s1, s2, s3⟩ := small_of hbk
    have HM : Hid (x0.1.length ≤ maxLen ∧ x0.2.length ≤ maxLen ∧ ∀ row ∈ x0.1, row.length ≤ maxLen) := ⟨m1, m2, fun row hr => Nat.le_trans (s3 row hr) (by decide)⟩
    have HCN : Hid (cntC x0 ≤ 4194304 ∧ x0.1.length ≤ 1048576) := cnt_small hbk
    clear s1 s2 s3 m1 m2
    rw [HS.out]
    have hsm := drop_small x0 a1
    generalize hDI : dropI x0 a1 = DI at hsm
    have HDI : Hid (dropI x0 a1 = DI) := hDI
    clear hDI
    obtain ⟨c, ok⟩ := DI
    simp only at hsm
    have CSP : Hid (∀ a b cap cp W, SlRd waysR W a x0.1 → SlRd intR W b x0.2 → Calls Try.prog 20 #[.agg #[.slice a x0.1.length cap, .slice b x0.2.length cp], .int .i64 a1] W fun e w' => ∃ av cv bv dv, e = .returned (.tuple #[.agg #[.slice av c.1.length cv, .slice bv c.2.length dv], .bool ok]) ∧ MadeR cacheR W w' [.slice av c.1.length cv, .slice bv c.2.length dv] c) := fun a b cap cp W h1 h2 => by have := specDropped_any a b x0 cap cp a1 W h1 h2 HM.out.1 HM.out.2.1 HM.out.2.2; rwa [HDI.out] at this
    have CIM : Hid (∀ a b cap cp W, SlRd waysR W a x0.1 → SlRd intR W b x0.2 → Calls Try.prog 11 #[.agg #[.slice a x0.1.length cap, .slice b x0.2.length cp], .int .i64 a1] W fun e w' => ∃ av cv bv dv, e = .returned (.tuple #[.agg #[.slice av c.1.length cv, .slice bv c.2.length dv], .bool ok]) ∧ MadeR cacheR W w' [.slice av c.1.length cv, .slice bv c.2.length dv] c) := fun a b cap cp W h1 h2 => by have := implDropped_any a b x0 cap cp a1 W h1 h2 HM.out.1 HM.out.2.1 HM.out.2.2; rwa [HDI.out] at this
    clear HDI
    obtain ⟨hc1, hc2⟩ := cnt_small (c := c) (by omega)
    have hq1 : ¬ ((1 : Int) + (cntC c : Int) < 0) := by omega
    have HM1 : Hid ((markC 1 c).1.length = c.1.length) := slmark_len _ _ _
    have HM2 : Hid ((markC 1 c).2.length = c.2.length) := slmark_len _ _ _
    obtain ⟨Ac0, Ac1⟩ := cells_two A
    have Alt := (Array.getElem?_eq_some_iff.1 A).1
    go_wp2_with fail
    clear Ac0 Ac1 Alt
    have R1 := two_next0 HR.out b0
    refine (toCache_rep aa bb x0 cap cp _ R1.1 R1.2 hbk).mono ?_
    clear R1
    rintro e v2w ⟨av1, cv1, bv1, dv1, rfl, mm⟩
    have S1 := made_slices mm
    have mb := mm.2
    replace b0 := below_step b0 mb
    replace A := row_keep mb A
    clear mb mm
    obtain ⟨Ac0, Ac1⟩ := cells_two A
    have Alt := (Array.getElem?_eq_some_iff.1 A).1
    go_wp2_with fail
    clear Ac0 Ac1 Alt
    refine (CSP.out _ _ _ _ _ S1.1 S1.2).mono ?_
    clear S1
    rintro e v3w ⟨av1, cv1, bv1, dv1, rfl, mm⟩
    have PA : w.heap.size < v2w.heap.size ∨ v3w.heap.size ≤ w.heap.size := .inl (Array.getElem?_eq_some_iff.1 A).1
    have Plo : w.heap.size ≤ v2w.heap.size := b0.size
    have P := owned_made (R := cacheR) mm
    have mbP := mm.2
    replace b0 := below_step b0 mbP
    replace A := row_keep mbP A
    clear mbP mm
    obtain ⟨Ac0, Ac1⟩ := cells_two A
    have Alt := (Array.getElem?_eq_some_iff.1 A).1
    go_wp2_with fail
    clear Ac0 Ac1 Alt
    have ZP := heap_at v3w (.cells #[.slice av1 c.1.length cv1, .slice bv1 c.2.length dv1] 27)
    have bzZP := box_below v3w (.cells #[.slice av1 c.1.length cv1, .slice bv1 c.2.length dv1] 27)
    have PZP : v3w.heap.size < v2w.heap.size ∨ v3w.heap.size ≤ v3w.heap.size := .inr P.2
    replace b0 := below_step b0 bzZP
    replace A := row_keep bzZP A
    replace P := owned_next P bzZP
    clear bzZP
    generalize v3w.alloc (.cells #[.slice av1 c.1.length cv1, .slice bv1 c.2.length dv1] 27) = v4w at b0 A ZP P ⊢
    have R1 := two_next0 HR.out b0
    refine (toCache_rep aa bb x0 cap cp _ R1.1 R1.2 hbk).mono ?_
    clear R1
    rintro e v5w ⟨av2, cv2, bv2, dv2, rfl, mm⟩
    have XA : w.heap.size < v4w.heap.size ∨ v5w.heap.size ≤ w.heap.size := .inl (Array.getElem?_eq_some_iff.1 A).1
    have XZP : v3w.heap.size < v4w.heap.size ∨ v5w.heap.size ≤ v3w.heap.size := .inl (Array.getElem?_eq_some_iff.1 ZP).1
    have PX : v3w.heap.size ≤ v4w.heap.size := P.2
    have Xlo : w.heap.size ≤ v4w.heap.size := b0.size
    have X := owned_made (R := cacheR) mm
    have mbX := mm.2
    replace b0 := below_step b0 mbX
    replace A := row_keep mbX A
    replace ZP := row_keep mbX ZP
    replace P := owned_next P mbX
    clear mbX mm
    obtain ⟨Ac0, Ac1⟩ := cells_two A
    have Alt := (Array.getElem?_eq_some_iff.1 A).1
    obtain ⟨ZPc0, ZPc1⟩ := cells_two ZP
    have ZPlt := (Array.getElem?_eq_some_iff.1 ZP).1
    go_wp2_with fail
    clear Ac0 Ac1 Alt ZPc0 ZPc1 ZPlt
    have ZX := heap_at v5w (.cells #[.slice av2 x0.1.length cv2, .slice bv2 x0.2.length dv2] 27)
    have bzZX := box_below v5w (.cells #[.slice av2 x0.1.length cv2, .slice bv2 x0.2.length dv2] 27)
    have PZX : v5w.heap.size < v2w.heap.size ∨ v3w.heap.size ≤ v5w.heap.size := .inr P.2
    have XZX : v5w.heap.size < v4w.heap.size ∨ v5w.heap.size ≤ v5w.heap.size := .inr X.2
    replace b0 := below_step b0 bzZX
    replace A := row_keep bzZX A
    replace ZP := row_keep bzZX ZP
    replace P := owned_next P bzZX
    replace X := owned_next X bzZX
    clear bzZX
    generalize v5w.alloc (.cells #[.slice av2 x0.1.length cv2, .slice bv2 x0.2.length dv2] 27) = v6w at b0 A ZP ZX P X ⊢
    have S2 := owned_two X
    refine (CIM.out _ _ _ _ _ S2.1 S2.2).mono ?_
    clear S2
    rintro e v7w ⟨av3, cv3, bv3, dv3, rfl, mm⟩
    have GA : w.heap.size < v6w.heap.size ∨ v7w.heap.size ≤ w.heap.size := .inl (Array.getElem?_eq_some_iff.1 A).1
    have GZP : v3w.heap.size < v6w.heap.size ∨ v7w.heap.size ≤ v3w.heap.size := .inl (Array.getElem?_eq_some_iff.1 ZP).1
    have GZX : v5w.heap.size < v6w.heap.size ∨ v7w.heap.size ≤ v5w.heap.size := .inl (Array.getElem?_eq_some_iff.1 ZX).1
    have PG : v3w.heap.size ≤ v6w.heap.size := P.2
    have XG : v5w.heap.size ≤ v6w.heap.size := X.2
    have Glo : w.heap.size ≤ v6w.heap.size := b0.size
    have G := owned_made (R := cacheR) mm
    have mbG := mm.2
    replace b0 := below_step b0 mbG
    replace A := row_keep mbG A
    replace ZP := row_keep mbG ZP
    replace ZX := row_keep mbG ZX
    replace P := owned_next P mbG
    replace X := owned_next X mbG
    clear mbG mm
    obtain ⟨Ac0, Ac1⟩ := cells_two A
    have Alt := (Array.getElem?_eq_some_iff.1 A).1
    obtain ⟨ZPc0, ZPc1⟩ := cells_two ZP
    have ZPlt := (Array.getElem?_eq_some_iff.1 ZP).1
    obtain ⟨ZXc0, ZXc1⟩ := cells_two ZX
    have ZXlt := (Array.getElem?_eq_some_iff.1 ZX).1
    go_wp2_with fail
    clear Ac0 Ac1 Alt ZPc0 ZPc1 ZPlt ZXc0 ZXc1 ZXlt
    have ZG := heap_at v7w (.cells #[.slice av3 c.1.length cv3, .slice bv3 c.2.length dv3] 27)
    have bzZG := box_below v7w (.cells #[.slice av3 c.1.length cv3, .slice bv3 c.2.length dv3] 27)
    have PZG : v7w.heap.size < v2w.heap.size ∨ v3w.heap.size ≤ v7w.heap.size := .inr P.2
    have XZG : v7w.heap.size < v4w.heap.size ∨ v5w.heap.size ≤ v7w.heap.size := .inr X.2
    have GZG : v7w.heap.size < v6w.heap.size ∨ v7w.heap.size ≤ v7w.heap.size := .inr G.2
    replace b0 := below_step b0 bzZG
    replace A := row_keep bzZG A
    replace ZP := row_keep bzZG ZP
    replace ZX := row_keep bzZG ZX
    replace P := owned_next P bzZG
    replace X := owned_next X bzZG
    replace G := owned_next G bzZG
    clear bzZG
    generalize v7w.alloc (.cells #[.slice av3 c.1.length cv3, .slice bv3 c.2.length dv3] 27) = v8w at b0 A ZP ZX ZG P X G ⊢
    have S1 := owned_two G
    have S2 := owned_two P
    refine (eqCache_rep c av3 bv3 av1 bv1 cv3 dv3 cv1 dv1 _ S1.1 S1.2 S2.1 S2.2 (by omega)).mono ?_
    clear S1 S2
    rintro e v9w ⟨rfl, bq⟩
    replace b0 := below_step b0 bq
    replace A := row_keep bq A
    replace ZP := row_keep bq ZP
    replace ZX := row_keep bq ZX
    replace ZG := row_keep bq ZG
    replace P := owned_next P bq
    replace X := owned_next X bq
    replace G := owned_next G bq
    clear bq
    go_wp2_with fail
    go_cut [49] (fun q wx => q = .bool false ∧ Below w.heap.size w wx ∧ wx.heap[w.heap.size]? = some (.cells #[.slice aa x0.1.length cap, .slice bb x0.2.length cp] 48) ∧ wx.heap[v3w.heap.size]? = some (.cells #[.slice av1 c.1.length cv1, .slice bv1 c.2.length dv1] 27) ∧ wx.heap[v5w.heap.size]? = some (.cells #[.slice av2 x0.1.length cv2, .slice bv2 x0.2.length dv2] 27) ∧ wx.heap[v7w.heap.size]? = some (.cells #[.slice av3 c.1.length cv3, .slice bv3 c.2.length dv3] 27) ∧ Owned cacheR (v2w.heap.size) (v3w.heap.size) wx [.slice av1 c.1.length cv1, .slice bv1 c.2.length dv1] (c) ∧ Owned cacheR (v4w.heap.size) (v5w.heap.size) wx [.slice av2 x0.1.length cv2, .slice bv2 x0.2.length dv2] (x0) ∧ Owned cacheR (v6w.heap.size) (v7w.heap.size) wx [.slice av3 c.1.length cv3, .slice bv3 c.2.length dv3] (c))
    case first =>
      replace b0 := b0.drew
      replace P := owned_drew P
      replace X := owned_drew X
      replace G := owned_drew G
      obtain ⟨Ac0, Ac1⟩ := cells_two A
      have Alt := (Array.getElem?_eq_some_iff.1 A).1
      obtain ⟨ZPc0, ZPc1⟩ := cells_two ZP
      have ZPlt := (Array.getElem?_eq_some_iff.1 ZP).1
      obtain ⟨ZXc0, ZXc1⟩ := cells_two ZX
      have ZXlt := (Array.getElem?_eq_some_iff.1 ZX).1
      obtain ⟨ZGc0, ZGc1⟩ := cells_two ZG
      have ZGlt := (Array.getElem?_eq_some_iff.1 ZG).1
      go_region_with (first | (go_at_call 29; have R1 := two_next0 HR.out b0; refine (toCache_rep aa bb x0 cap cp _ R1.1 R1.2 hbk).mono ?_; clear R1; rintro e wq ⟨av4, cv4, bv4, dv4, rfl, mm⟩; have S4 := made_slices mm; have mb := mm.2; replace b0 := below_step b0 mb; replace A := row_keep mb A; replace ZP := row_keep mb ZP; replace ZX := row_keep mb ZX; replace ZG := row_keep mb ZG; replace P := owned_next P mb; replace X := owned_next X mb; replace G := owned_next G mb; clear mb mm; clear Ac0 Ac1 Alt ZPc0 ZPc1 ZPlt ZXc0 ZXc1 ZXlt ZGc0 ZGc1 ZGlt; obtain ⟨Ac0, Ac1⟩ := cells_two A; have Alt := (Array.getElem?_eq_some_iff.1 A).1; obtain ⟨ZPc0, ZPc1⟩ := cells_two ZP; have ZPlt := (Array.getElem?_eq_some_iff.1 ZP).1; obtain ⟨ZXc0, ZXc1⟩ := cells_two ZX; have ZXlt := (Array.getElem?_eq_some_iff.1 ZX).1; obtain ⟨ZGc0, ZGc1⟩ := cells_two ZG; have ZGlt := (Array.getElem?_eq_some_iff.1 ZG).1) | (go_at_call 31; have S2 := owned_two X; refine (eqCache_rep x0 av2 bv2 av4 bv4 cv2 dv2 cv4 dv4 _ S2.1 S2.2 S4.1 S4.2 (by omega)).mono ?_; rintro e wq ⟨rfl, mb⟩; replace b0 := below_step b0 mb; replace A := row_keep mb A; replace ZP := row_keep mb ZP; replace ZX := row_keep mb ZX; replace ZG := row_keep mb ZG; replace P := owned_next P mb; replace X := owned_next X mb; replace G := owned_next G mb; clear mb; clear Ac0 Ac1 Alt ZPc0 ZPc1 ZPlt ZXc0 ZXc1 ZXlt ZGc0 ZGc1 ZGlt; obtain ⟨Ac0, Ac1⟩ := cells_two A; have Alt := (Array.getElem?_eq_some_iff.1 A).1; obtain ⟨ZPc0, ZPc1⟩ := cells_two ZP; have ZPlt := (Array.getElem?_eq_some_iff.1 ZP).1; obtain ⟨ZXc0, ZXc1⟩ := cells_two ZX; have ZXlt := (Array.getElem?_eq_some_iff.1 ZX).1; obtain ⟨ZGc0, ZGc1⟩ := cells_two ZG; have ZGlt := (Array.getElem?_eq_some_iff.1 ZG).1))
      all_goals
        go_wp2_with fail
        go_meet
        exact ⟨rfl, b0, A, ZP, ZX, ZG, P, X, G⟩
    case rest =>
      clear b0 A ZP ZX ZG P X G
      obtain ⟨rfl, b0, A, ZP, ZX, ZG, P, X, G⟩ := hcut
      obtain ⟨Ac0, Ac1⟩ := cells_two A
      have Alt := (Array.getElem?_eq_some_iff.1 A).1
      obtain ⟨ZPc0, ZPc1⟩ := cells_two ZP
      have ZPlt := (Array.getElem?_eq_some_iff.1 ZP).1
      obtain ⟨ZXc0, ZXc1⟩ := cells_two ZX
      have ZXlt := (Array.getElem?_eq_some_iff.1 ZX).1
      obtain ⟨ZGc0, ZGc1⟩ := cells_two ZG
      have ZGlt := (Array.getElem?_eq_some_iff.1 ZG).1
      go_wp2_with fail
      clear Ac0 Ac1 Alt ZPc0 ZPc1 ZPlt ZXc0 ZXc1 ZXlt ZGc0 ZGc1 ZGlt
      refine (markCache_rep _ _ _ 1 x0 _ (by decide) (by decide) (by have := HCN.out.1; omega) (by have := HCN.out.2; omega) X.1).mono ?_
      rintro e v10w ⟨rfl, -, ch⟩
      replace b0 := chg_b0 b0 ch Xlo
      replace A := row_chg A ch XA
      replace ZP := row_chg ZP ch XZP
      replace ZX := row_chg ZX ch XZX
      replace ZG := row_chg ZG ch XZG
      replace P := owned_chg P ch (.inl PX)
      replace G := owned_chg G ch (.inr XG)
      clear ch X
      have hk2 : ¬ ((1 : Int) + (cntC x0 : Int) < 0) := by omega
      obtain ⟨Ac0, Ac1⟩ := cells_two A
      have Alt := (Array.getElem?_eq_some_iff.1 A).1
      obtain ⟨ZPc0, ZPc1⟩ := cells_two ZP
      have ZPlt := (Array.getElem?_eq_some_iff.1 ZP).1
      obtain ⟨ZXc0, ZXc1⟩ := cells_two ZX
      have ZXlt := (Array.getElem?_eq_some_iff.1 ZX).1
      obtain ⟨ZGc0, ZGc1⟩ := cells_two ZG
      have ZGlt := (Array.getElem?_eq_some_iff.1 ZG).1
      go_wp2_with fail
      clear Ac0 Ac1 Alt ZPc0 ZPc1 ZPlt ZXc0 ZXc1 ZXlt ZGc0 ZGc1 ZGlt
      have S1 := owned_two G
      have S2 := owned_two P
      refine (eqCache_rep c av3 bv3 av1 bv1 cv3 dv3 cv1 dv1 _ S1.1 S1.2 S2.1 S2.2 (by omega)).mono ?_
      clear S1 S2
      rintro e v11w ⟨rfl, bq⟩
      replace b0 := below_step b0 bq
      replace A := row_keep bq A
      replace ZP := row_keep bq ZP
      replace ZX := row_keep bq ZX
      replace ZG := row_keep bq ZG
      replace P := owned_next P bq
      replace G := owned_next G bq
      clear bq
      obtain ⟨Ac0, Ac1⟩ := cells_two A
      have Alt := (Array.getElem?_eq_some_iff.1 A).1
      obtain ⟨ZPc0, ZPc1⟩ := cells_two ZP
      have ZPlt := (Array.getElem?_eq_some_iff.1 ZP).1
      obtain ⟨ZXc0, ZXc1⟩ := cells_two ZX
      have ZXlt := (Array.getElem?_eq_some_iff.1 ZX).1
      obtain ⟨ZGc0, ZGc1⟩ := cells_two ZG
      have ZGlt := (Array.getElem?_eq_some_iff.1 ZG).1
      go_wp2_with fail
      clear Ac0 Ac1 Alt ZPc0 ZPc1 ZPlt ZXc0 ZXc1 ZXlt ZGc0 ZGc1 ZGlt
      refine (markCache_rep _ _ _ 1 c _ (by decide) (by decide) (by omega) (by omega) G.1).mono ?_
      rintro e v12w ⟨rfl, gm, ch⟩
      replace b0 := chg_b0 b0 ch Glo
      replace A := row_chg A ch GA
      replace ZP := row_chg ZP ch GZP
      replace ZX := row_chg ZX ch GZX
      replace ZG := row_chg ZG ch GZG
      replace P := owned_chg P ch (.inl PG)
      have GM := And.intro gm (Nat.le_trans G.2 ch.size)
      clear ch G gm
      replace GM : Owned cacheR (v6w.heap.size) (v7w.heap.size) v12w [.slice av3 c.1.length cv3, .slice bv3 c.2.length dv3] (markC 1 c) := GM
      obtain ⟨Ac0, Ac1⟩ := cells_two A
      have Alt := (Array.getElem?_eq_some_iff.1 A).1
      obtain ⟨ZPc0, ZPc1⟩ := cells_two ZP
      have ZPlt := (Array.getElem?_eq_some_iff.1 ZP).1
      obtain ⟨ZXc0, ZXc1⟩ := cells_two ZX
      have ZXlt := (Array.getElem?_eq_some_iff.1 ZX).1
      obtain ⟨ZGc0, ZGc1⟩ := cells_two ZG
      have ZGlt := (Array.getElem?_eq_some_iff.1 ZG).1
      go_wp2_with fail
      clear Ac0 Ac1 Alt ZPc0 ZPc1 ZPlt ZXc0 ZXc1 ZXlt ZGc0 ZGc1 ZGlt
      have S1 := owned_two (c := markC 1 c) (a := av3) (b := bv3) (cap := cv3) (cp := dv3) (by rw [HM1.out, HM2.out]; exact GM)
      refine (heldCache_rep av3 bv3 cv3 dv3 1 c _ (by decide) (by decide) (by omega) (by omega) S1.1 S1.2).mono ?_
      clear S1
      rintro e v13w ⟨rfl, bq⟩
      replace b0 := below_step b0 bq
      replace A := row_keep bq A
      replace ZP := row_keep bq ZP
      replace ZX := row_keep bq ZX
      replace ZG := row_keep bq ZG
      replace P := owned_next P bq
      replace GM := owned_next GM bq
      clear bq
      obtain ⟨Ac0, Ac1⟩ := cells_two A
      have Alt := (Array.getElem?_eq_some_iff.1 A).1
      obtain ⟨ZPc0, ZPc1⟩ := cells_two ZP
      have ZPlt := (Array.getElem?_eq_some_iff.1 ZP).1
      obtain ⟨ZXc0, ZXc1⟩ := cells_two ZX
      have ZXlt := (Array.getElem?_eq_some_iff.1 ZX).1
      obtain ⟨ZGc0, ZGc1⟩ := cells_two ZG
      have ZGlt := (Array.getElem?_eq_some_iff.1 ZG).1
      go_wp2_with fail
      clear Ac0 Ac1 Alt ZPc0 ZPc1 ZPlt ZXc0 ZXc1 ZXlt ZGc0 ZGc1 ZGlt
      have R1 := two_next0 HR.out b0
      refine (toCache_rep aa bb x0 cap cp _ R1.1 R1.2 hbk).mono ?_
      clear R1
      rintro e v14w ⟨av5, cv5, bv5, dv5, rfl, mm⟩
      have S5 := made_slices mm
      have mb := mm.2
      replace b0 := below_step b0 mb
      replace A := row_keep mb A
      replace ZP := row_keep mb ZP
      replace ZX := row_keep mb ZX
      replace ZG := row_keep mb ZG
      replace P := owned_next P mb
      replace GM := owned_next GM mb
      clear mb mm
      obtain ⟨Ac0, Ac1⟩ := cells_two A
      have Alt := (Array.getElem?_eq_some_iff.1 A).1
      obtain ⟨ZPc0, ZPc1⟩ := cells_two ZP
      have ZPlt := (Array.getElem?_eq_some_iff.1 ZP).1
      obtain ⟨ZXc0, ZXc1⟩ := cells_two ZX
      have ZXlt := (Array.getElem?_eq_some_iff.1 ZX).1
      obtain ⟨ZGc0, ZGc1⟩ := cells_two ZG
      have ZGlt := (Array.getElem?_eq_some_iff.1 ZG).1
      go_wp2_with fail
      clear Ac0 Ac1 Alt ZPc0 ZPc1 ZPlt ZXc0 ZXc1 ZXlt ZGc0 ZGc1 ZGlt
      refine (CIM.out _ _ _ _ _ S5.1 S5.2).mono ?_
      clear S5
      rintro e v15w ⟨av6, cv6, bv6, dv6, rfl, mm⟩
      have HA : w.heap.size < v14w.heap.size ∨ v15w.heap.size ≤ w.heap.size := .inl (Array.getElem?_eq_some_iff.1 A).1
      have HZP : v3w.heap.size < v14w.heap.size ∨ v15w.heap.size ≤ v3w.heap.size := .inl (Array.getElem?_eq_some_iff.1 ZP).1
      have HZX : v5w.heap.size < v14w.heap.size ∨ v15w.heap.size ≤ v5w.heap.size := .inl (Array.getElem?_eq_some_iff.1 ZX).1
      have HZG : v7w.heap.size < v14w.heap.size ∨ v15w.heap.size ≤ v7w.heap.size := .inl (Array.getElem?_eq_some_iff.1 ZG).1
      have PH : v3w.heap.size ≤ v14w.heap.size := P.2
      have GMH : v7w.heap.size ≤ v14w.heap.size := GM.2
      have Hlo : w.heap.size ≤ v14w.heap.size := b0.size
      have H := owned_made (R := cacheR) mm
      have mbH := mm.2
      replace b0 := below_step b0 mbH
      replace A := row_keep mbH A
      replace ZP := row_keep mbH ZP
      replace ZX := row_keep mbH ZX
      replace ZG := row_keep mbH ZG
      replace P := owned_next P mbH
      replace GM := owned_next GM mbH
      clear mbH mm
      obtain ⟨Ac0, Ac1⟩ := cells_two A
      have Alt := (Array.getElem?_eq_some_iff.1 A).1
      obtain ⟨ZPc0, ZPc1⟩ := cells_two ZP
      have ZPlt := (Array.getElem?_eq_some_iff.1 ZP).1
      obtain ⟨ZXc0, ZXc1⟩ := cells_two ZX
      have ZXlt := (Array.getElem?_eq_some_iff.1 ZX).1
      obtain ⟨ZGc0, ZGc1⟩ := cells_two ZG
      have ZGlt := (Array.getElem?_eq_some_iff.1 ZG).1
      go_wp2_with fail
      clear Ac0 Ac1 Alt ZPc0 ZPc1 ZPlt ZXc0 ZXc1 ZXlt ZGc0 ZGc1 ZGlt
      have ZH := heap_at v15w (.cells #[.slice av6 c.1.length cv6, .slice bv6 c.2.length dv6] 27)
      have bzZH := box_below v15w (.cells #[.slice av6 c.1.length cv6, .slice bv6 c.2.length dv6] 27)
      have PZH : v15w.heap.size < v2w.heap.size ∨ v3w.heap.size ≤ v15w.heap.size := .inr P.2
      have GMZH : v15w.heap.size < v6w.heap.size ∨ v7w.heap.size ≤ v15w.heap.size := .inr GM.2
      have HZH : v15w.heap.size < v14w.heap.size ∨ v15w.heap.size ≤ v15w.heap.size := .inr H.2
      replace b0 := below_step b0 bzZH
      replace A := row_keep bzZH A
      replace ZP := row_keep bzZH ZP
      replace ZX := row_keep bzZH ZX
      replace ZG := row_keep bzZH ZG
      replace P := owned_next P bzZH
      replace GM := owned_next GM bzZH
      replace H := owned_next H bzZH
      clear bzZH
      generalize v15w.alloc (.cells #[.slice av6 c.1.length cv6, .slice bv6 c.2.length dv6] 27) = v16w at b0 A ZP ZX ZG ZH P GM H ⊢
      have S1 := owned_two H
      have S2 := owned_two P
      refine (eqCache_rep c av6 bv6 av1 bv1 cv6 dv6 cv1 dv1 _ S1.1 S1.2 S2.1 S2.2 (by omega)).mono ?_
      clear S1 S2
      rintro e v17w ⟨rfl, bq⟩
      replace b0 := below_step b0 bq
      replace A := row_keep bq A
      replace ZP := row_keep bq ZP
      replace ZX := row_keep bq ZX
      replace ZG := row_keep bq ZG
      replace ZH := row_keep bq ZH
      replace P := owned_next P bq
      replace GM := owned_next GM bq
      replace H := owned_next H bq
      clear bq
      obtain ⟨Ac0, Ac1⟩ := cells_two A
      have Alt := (Array.getElem?_eq_some_iff.1 A).1
      obtain ⟨ZPc0, ZPc1⟩ := cells_two ZP
      have ZPlt := (Array.getElem?_eq_some_iff.1 ZP).1
      obtain ⟨ZXc0, ZXc1⟩ := cells_two ZX
      have ZXlt := (Array.getElem?_eq_some_iff.1 ZX).1
      obtain ⟨ZGc0, ZGc1⟩ := cells_two ZG
      have ZGlt := (Array.getElem?_eq_some_iff.1 ZG).1
      obtain ⟨ZHc0, ZHc1⟩ := cells_two ZH
      have ZHlt := (Array.getElem?_eq_some_iff.1 ZH).1
      go_wp2_with fail
      clear Ac0 Ac1 Alt ZPc0 ZPc1 ZPlt ZXc0 ZXc1 ZXlt ZGc0 ZGc1 ZGlt ZHc0 ZHc1 ZHlt
      have S1 := owned_two (c := markC 1 c) (a := av3) (b := bv3) (cap := cv3) (cp := dv3) (by rw [HM1.out, HM2.out]; exact GM)
      refine (heldCache_rep av3 bv3 cv3 dv3 1 c _ (by decide) (by decide) (by omega) (by omega) S1.1 S1.2).mono ?_
      clear S1
      rintro e v18w ⟨rfl, bq⟩
      replace b0 := below_step b0 bq
      replace A := row_keep bq A
      replace ZP := row_keep bq ZP
      replace ZX := row_keep bq ZX
      replace ZG := row_keep bq ZG
      replace ZH := row_keep bq ZH
      replace P := owned_next P bq
      replace GM := owned_next GM bq
      replace H := owned_next H bq
      clear bq
      clear P GM H A ZP ZX ZG ZH
      go_wp2
      go_ret
      exact ⟨rfl, b0⟩
  · have HS : Hid (szI (cacheM.bk x0) 1048576 = -1) := szI_no hf
    rw [HS.out]
    go_wp2
    go_ret
    exact ⟨rfl, b0⟩

set_option maxRecDepth 100000 in
theorem lifted (os : Os) (started : os.Started) (H : Type) (enc : TypeId × Value → H) :
    ReturnsInHanded {} Try.checked os 6 .any (Rows.fnExactDroppedSpec.pre6 enc Try.prog Try.f6 Rows.fnExactDroppedRow.domain false) (Rows.fnExactDroppedSpec.post enc Try.prog Try.f6 false true false false) := by
  refine returnsInHanded_of_change (C := Try.checked) own started (by kernel_rfl) Try.func6
    (ChangeSpec.witness6 (enc := enc) (C := Try.checked) false ⟨#[], #[.agg #[.slice none 0 0, .slice none 0 0], .int .i64 0], []⟩ 8 (by kernel_rfl) (by kernel_rfl) (by kernel_rfl) (by kernel_rfl)) ?_
  intro W base args ds gs before hval0 hW hcnd _
  have hval : ∀ (j : Nat) t v, Try.f6.params[j]? = some t → args[j]? = some v → Value.okWide Try.prog W .any base t v := hval0
  have hW' := hW
  obtain ⟨p, q, hA0, hV, rfl, hfz, hnd⟩ := hW
  have hA : DataW.TrodAll enc Try.prog W 0 (fun _ => true) true Try.f6.params.toList args.toList ds p := hA0
  rw [Try.params6] at hA hval
  obtain ⟨v0, vs0, d0, ds0, p0, q0, hargs, rfl, rfl, h0, r0⟩ := trodAll_cons hA
  obtain ⟨v1, vs1, d1, ds1, p1, q1, rfl, rfl, rfl, h1, r1⟩ := trodAll_cons r0
  obtain ⟨rfl, rfl, rfl⟩ := trodAll_nil r1
  obtain rfl : args = #[v0, v1] := by cases args; simp_all
  obtain ⟨rfl, rfl⟩ := trodVars_none hV
  have k0 := h0
  have lt0 : ∀ x ∈ p0, x.block < W.heap.size := by obtain ⟨m, hm⟩ := k0; exact DataW.trod_lt m _ _ _ hm
  have k1 := h1
  have lt1 : ∀ x ∈ p1, x.block < W.heap.size := by obtain ⟨m, hm⟩ := k1; exact DataW.trod_lt m _ _ _ hm
  obtain ⟨cs0, x0, rfl, w0⟩ := open_struct Try.underlying48 opens_cache (hval 0 48 v0 rfl rfl) h0
  obtain ⟨a1, rfl, e1, f1, w1⟩ := open_int Try.underlying2 (hval 1 2 v1 rfl rfl) h1
  clear hA0 hval0
  refine (walk cs0 x0 a1 w1 W w0).mono fun e W' ⟨he, bel⟩ => ?_
  subst he
  exact ⟨_, rfl, _, _, _, [], _, [], hW', trodAll_mk1 (shut_bool Try.underlying4 _), (trodAll_cons_mk (Below.trod laidOut (by kernel_rfl) (of_decide_eq_true (by kernel_rfl)) k0 bel lt0) (trodAll_cons_mk (Below.trod laidOut (by kernel_rfl) (of_decide_eq_true (by kernel_rfl)) k1 bel lt1) trodAll_mk0)), rfl, bel.frame _, fun h => by cases h⟩

theorem over : Rows.fnExactDroppedRow.holds Try.pinned (OpenSpec.ofChange Rows.fnExactDroppedSpec) :=
  OpenClaim.holds_of_wide 6 Try.f6 rfl rfl rfl rfl rfl rfl rfl ⟨rfl, rfl, rfl, rfl, rfl⟩ rfl rfl rfl rfl rfl (by kernel_rfl) Try.func6 (by kernel_rfl)
    (of_decide_eq_true (by kernel_rfl)) (by unfold Func.isWrapper; first | (rw [if_pos (by decide +kernel)]; kernel_rfl) | (rw [if_neg (by decide +kernel)]; exact ⟨rfl, rfl⟩))
    (fun os started H enc _ => lifted os started H enc)

theorem proved : Rows.FnExactDroppedSaid :=
  over
#print axioms proved
end Go.Proofs.Ytmldilmiihafoaa.fnExactDropped
