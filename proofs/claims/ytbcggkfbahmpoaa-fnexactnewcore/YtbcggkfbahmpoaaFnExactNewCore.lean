/- At every two numbers and every list of ops, impl.NewCore answers as spec.NewCore does, field by field, writes into no argument, keeps nothing of one, and its answer owns its memory, behind another call too: the law FnExactNewCore returns true and changes nothing that was there. No condition. -/
import Derived.Test.YtbcggkfbahmpoaaRows
import Derived.Test.YtbcggkfbahmpoaaJLinesBoxesAppGenOwned
import Derived.Test.YtbcggkfbahmpoaaNewCoreS
import Derived.WalkKit
import Derived.ProofKit
import Derived.OpenShut
import Derived.ShutString
import Derived.ChangeOld
import Derived.Below
import Derived.Carry
import Derived.Lib.SmallJoins
namespace Go.Proofs.Ytbcggkfbahmpoaa.fnExactNewCore
open Go.ChangeShapes Go.WideShapes Go.ChangeAt Go.RowKit Go.Joins
open Go.ChangeMaps (open_string shut_string)
set_option linter.unusedVariables false

theorem own : ownKnob Try.prog.godebug = none := by kernel_rfl
theorem laidOut : laidOutB Try.prog = true := by kernel_rfl

theorem newI_sm (a b : Int) : cacheM.cV (newI a b).1 ≤ 1000 ∧ cacheM.bk (newI a b).1 ≤ 1000 := by
  unfold newI
  split
  · rename_i h
    simp only [Bool.and_eq_true] at h
    obtain ⟨n, rfl, hn⟩ := powB_nat h.1
    obtain ⟨m, rfl, hm⟩ := powB_nat h.2
    rcases hn with rfl | rfl | rfl <;> rcases hm with rfl | rfl | rfl <;> decide
  · decide
theorem newCore_small (a b : Int) (p : List OpD) (h : p.length ≤ 1048576) : coreM.bk (newCoreI a b p).1 ≤ 2000000 ∧ coreM.cV (newCoreI a b p).1 ≤ 5000000 := by
  unfold newCoreI newQ
  split
  · obtain ⟨h1, h2⟩ := newI_sm a b
    constructor
    · show cacheM.bk (newI a b).1 + (opsM.bk p + (0 + (0 + (wayM.bk emptyW + intsM.bk [])))) ≤ 2000000
      rw [bk_ops]
      have e1 : wayM.bk emptyW = 0 := by decide
      have e2 : intsM.bk ([] : List Int) = 0 := by decide
      omega
    · show cacheM.cV (newI a b).1 + (slcnt opM p + (0 + (0 + (wayM.cV emptyW + intsM.cV [])))) ≤ 5000000
      rw [cnt_ops]
      have e1 : wayM.cV emptyW = 0 := by decide
      have e2 : intsM.cV ([] : List Int) = 0 := by decide
      omega
  · exact ⟨by decide, by decide⟩
set_option maxHeartbeats 8000000 in
set_option maxRecDepth 100000 in
theorem walk (a0 : Int) (w0 : (Lit.int .i64 a0).wf = true) (a1 : Int) (w1 : (Lit.int .i64 a1).wf = true) (a2 : Option Addr) (cap2 : Nat) (x2 : RepOf (opsR)) (w : World) (w2 : SlRd opR w a2 x2) (l2 : x2.length ≤ maxLen) :
    Calls Try.prog 4 #[.int .i64 a0, .int .i64 a1, .slice a2 x2.length cap2] w fun e w' => e = .returned (.bool true) ∧ Below w.heap.size w w' := by
  have HR : Hid (∀ W, Below w.heap.size w W → SlRd opR W a2 x2) := fun W hb => slrd_next w2 hb
  have hsm := newCore_small a0 a1 x2
  generalize hNI : newCoreI a0 a1 x2 = NI at hsm
  have HNI : Hid (newCoreI a0 a1 x2 = NI) := hNI
  clear hNI
  obtain ⟨c, ok⟩ := NI
  have CSP : Hid (∀ W v, opsR.rd W [v] x2 → x2.length ≤ 1048576 → Calls Try.prog 11 #[.int .i64 a0, .int .i64 a1, v] W fun e w' => ∃ ds, e = .returned (.tuple #[aggV ds, .bool ok]) ∧ MadeR coreR W w' ds c) := fun W v h1 h2 => by have := specNewCore_u a0 a1 v x2 W h1 h2; rw [HNI.out] at this; exact this
  have CIM : Hid (∀ W v, opsR.rd W [v] x2 → x2.length ≤ 1048576 → Calls Try.prog 13 #[.int .i64 a0, .int .i64 a1, v] W fun e w' => ∃ ds, e = .returned (.tuple #[aggV ds, .bool ok]) ∧ MadeR coreR W w' ds c) := fun W v h1 h2 => by have := implNewCore_u a0 a1 v x2 W h1; rw [HNI.out] at this; exact this
  clear HNI w2
  have b0 := Below.refl w.heap.size w
  go_enter Try.func4, Try.ntmps4
  go_wp2_with fail
  refine (szOpS_rep a2 x2 cap2 1048576 _ (by decide) (by decide) l2).mono ?_
  rintro e v1w ⟨rfl, hw⟩
  have bq := be_eq hw
  clear hw
  rw [show opsM.bk x2 = opsM.bk x2 from rfl]
  replace b0 := below_step b0 bq
  clear bq
  by_cases hf : ((opsM.bk x2 : Nat) : Int) ≤ 1048576
  · have HS : Hid (szI (opsM.bk x2) 1048576 = 1048576 - (opsM.bk x2 : Int)) := szI_yes hf
    have hf' : ¬ (1048576 - ((opsM.bk x2 : Nat) : Int) < 0) := by omega
    have hbk : opsM.bk x2 ≤ 1048576 := by omega
    have hlen : x2.length ≤ 1048576 := by rw [← bk_ops]; exact hbk
    have hbl : opsM.bk x2 ≤ lot := Nat.le_trans hbk (by decide)
    obtain ⟨hc1, hc2⟩ := hsm hlen
    have hcl : coreM.bk c ≤ lot := Nat.le_trans hc1 (by decide)
    have hxm : (1 : Int) + (opsM.cV x2 : Int) ≤ (lot : Int) := by have e : opsM.cV x2 = slcnt opM x2 := rfl; rw [e, cnt_ops]; have e2 : (lot : Int) = 4398046511104 := rfl; omega
    have hgm : (1 : Int) + (coreM.cV c : Int) ≤ (lot : Int) := by have e2 : (lot : Int) = 4398046511104 := rfl; omega
    have hq1 : ¬ ((1 : Int) + (opsM.cV x2 : Int) < 0) := by omega
    have hq2 : ¬ ((1 : Int) + (coreM.cV c : Int) < 0) := by omega
    rw [HS.out]
    generalize hkx : opsM.cV x2 = kx at hxm hq1
    have HKX : Hid (opsM.cV x2 = kx) := hkx
    clear hkx
    generalize hkc : coreM.cV c = kc at hgm hq2
    have HKC : Hid (coreM.cV c = kc) := hkc
    clear hkc
    go_wp2_with fail
    refine (toOpS_rep a2 x2 cap2 _ (HR.out _ b0) hbk).mono ?_
    rintro e v2w ⟨vv, rfl, mm⟩
    obtain ⟨oap, ocp, ro, -, -, -⟩ := opsR.own_rd mm.1
    simp only [List.cons.injEq, and_true] at ro
    obtain rfl := ro
    have Plo : w.heap.size ≤ v1w.heap.size := b0.size
    have P := owned_made (R := opsR) mm
    have mbP := mm.2
    replace b0 := below_step b0 mbP
    clear mbP mm
    go_wp2_with fail
    refine (CSP.out _ _ (opsR.own_rd P.1) hlen).mono ?_
    rintro e v3w ⟨ds, rfl, mm⟩
    obtain ⟨gaq, gcq, gbq, gdq, haq, hcq, iaq, icq, jaq, jcq, rfl⟩ := core_shape (coreR.own_rd mm.1)
    rw [show aggV [.slice gaq c.1.1.length gcq, .slice gbq c.1.2.length gdq, .slice haq c.2.1.length hcq, .int .i64 c.2.2.1, .int .i64 c.2.2.2.1, .int .i64 c.2.2.2.2.1.1, .int .i64 c.2.2.2.2.1.2.1, .slice iaq c.2.2.2.2.1.2.2.length icq, .slice jaq c.2.2.2.2.2.length jcq] = .agg #[.slice gaq c.1.1.length gcq, .slice gbq c.1.2.length gdq, .slice haq c.2.1.length hcq, .int .i64 c.2.2.1, .int .i64 c.2.2.2.1, .int .i64 c.2.2.2.2.1.1, .int .i64 c.2.2.2.2.1.2.1, .slice iaq c.2.2.2.2.1.2.2.length icq, .slice jaq c.2.2.2.2.2.length jcq] from rfl]
    have PQ : v2w.heap.size ≤ v2w.heap.size := P.2
    have Qlo : w.heap.size ≤ v2w.heap.size := b0.size
    have Q := owned_made (R := coreR) mm
    have mbQ := mm.2
    replace b0 := below_step b0 mbQ
    replace P := owned_next P mbQ
    clear mbQ mm
    go_wp2_with fail
    have ZQ := heap_at v3w (.cells #[.slice gaq c.1.1.length gcq, .slice gbq c.1.2.length gdq, .slice haq c.2.1.length hcq, .int .i64 c.2.2.1, .int .i64 c.2.2.2.1, .int .i64 c.2.2.2.2.1.1, .int .i64 c.2.2.2.2.1.2.1, .slice iaq c.2.2.2.2.1.2.2.length icq, .slice jaq c.2.2.2.2.2.length jcq] 39)
    have bzZQ := box_below v3w (.cells #[.slice gaq c.1.1.length gcq, .slice gbq c.1.2.length gdq, .slice haq c.2.1.length hcq, .int .i64 c.2.2.1, .int .i64 c.2.2.2.1, .int .i64 c.2.2.2.2.1.1, .int .i64 c.2.2.2.2.1.2.1, .slice iaq c.2.2.2.2.1.2.2.length icq, .slice jaq c.2.2.2.2.2.length jcq] 39)
    have PZQ : v3w.heap.size < v1w.heap.size ∨ v2w.heap.size ≤ v3w.heap.size := .inr P.2
    have QZQ : v3w.heap.size < v2w.heap.size ∨ v3w.heap.size ≤ v3w.heap.size := .inr Q.2
    replace b0 := below_step b0 bzZQ
    replace P := owned_next P bzZQ
    replace Q := owned_next Q bzZQ
    clear bzZQ
    generalize v3w.alloc (.cells #[.slice gaq c.1.1.length gcq, .slice gbq c.1.2.length gdq, .slice haq c.2.1.length hcq, .int .i64 c.2.2.1, .int .i64 c.2.2.2.1, .int .i64 c.2.2.2.2.1.1, .int .i64 c.2.2.2.2.1.2.1, .slice iaq c.2.2.2.2.1.2.2.length icq, .slice jaq c.2.2.2.2.2.length jcq] 39) = v4w at b0 ZQ P Q ⊢
    clear P
    obtain ⟨ZQc0, ZQc1, ZQc2, ZQc3, ZQc4, ZQc5, ZQc6, ZQc7, ZQc8⟩ := cells_core ZQ
    have ZQlt := (Array.getElem?_eq_some_iff.1 ZQ).1
    go_wp2_with fail
    clear ZQc0 ZQc1 ZQc2 ZQc3 ZQc4 ZQc5 ZQc6 ZQc7 ZQc8 ZQlt
    refine (toOpS_rep a2 x2 cap2 _ (HR.out _ b0) hbk).mono ?_
    rintro e v5w ⟨vv, rfl, mm⟩
    obtain ⟨oax, ocx, ro, -, -, -⟩ := opsR.own_rd mm.1
    simp only [List.cons.injEq, and_true] at ro
    obtain rfl := ro
    have XZQ : v3w.heap.size < v4w.heap.size ∨ v5w.heap.size ≤ v3w.heap.size := .inl (Array.getElem?_eq_some_iff.1 ZQ).1
    have QX : v3w.heap.size ≤ v4w.heap.size := Q.2
    have Xlo : w.heap.size ≤ v4w.heap.size := b0.size
    have X := owned_made (R := opsR) mm
    have mbX := mm.2
    replace b0 := below_step b0 mbX
    replace ZQ := row_keep mbX ZQ
    replace Q := owned_next Q mbX
    clear mbX mm
    obtain ⟨ZQc0, ZQc1, ZQc2, ZQc3, ZQc4, ZQc5, ZQc6, ZQc7, ZQc8⟩ := cells_core ZQ
    have ZQlt := (Array.getElem?_eq_some_iff.1 ZQ).1
    go_wp2_with fail
    clear ZQc0 ZQc1 ZQc2 ZQc3 ZQc4 ZQc5 ZQc6 ZQc7 ZQc8 ZQlt
    refine (CIM.out _ _ (opsR.own_rd X.1) hlen).mono ?_
    rintro e v6w ⟨ds, rfl, mm⟩
    obtain ⟨gag, gcg, gbg, gdg, hag, hcg, iag, icg, jag, jcg, rfl⟩ := core_shape (coreR.own_rd mm.1)
    rw [show aggV [.slice gag c.1.1.length gcg, .slice gbg c.1.2.length gdg, .slice hag c.2.1.length hcg, .int .i64 c.2.2.1, .int .i64 c.2.2.2.1, .int .i64 c.2.2.2.2.1.1, .int .i64 c.2.2.2.2.1.2.1, .slice iag c.2.2.2.2.1.2.2.length icg, .slice jag c.2.2.2.2.2.length jcg] = .agg #[.slice gag c.1.1.length gcg, .slice gbg c.1.2.length gdg, .slice hag c.2.1.length hcg, .int .i64 c.2.2.1, .int .i64 c.2.2.2.1, .int .i64 c.2.2.2.2.1.1, .int .i64 c.2.2.2.2.1.2.1, .slice iag c.2.2.2.2.1.2.2.length icg, .slice jag c.2.2.2.2.2.length jcg] from rfl]
    have GZQ : v3w.heap.size < v5w.heap.size ∨ v6w.heap.size ≤ v3w.heap.size := .inl (Array.getElem?_eq_some_iff.1 ZQ).1
    have QG : v3w.heap.size ≤ v5w.heap.size := Q.2
    have XG : v5w.heap.size ≤ v5w.heap.size := X.2
    have Glo : w.heap.size ≤ v5w.heap.size := b0.size
    have G := owned_made (R := coreR) mm
    have mbG := mm.2
    replace b0 := below_step b0 mbG
    replace ZQ := row_keep mbG ZQ
    replace Q := owned_next Q mbG
    replace X := owned_next X mbG
    clear mbG mm
    obtain ⟨ZQc0, ZQc1, ZQc2, ZQc3, ZQc4, ZQc5, ZQc6, ZQc7, ZQc8⟩ := cells_core ZQ
    have ZQlt := (Array.getElem?_eq_some_iff.1 ZQ).1
    go_wp2_with fail
    clear ZQc0 ZQc1 ZQc2 ZQc3 ZQc4 ZQc5 ZQc6 ZQc7 ZQc8 ZQlt
    have ZG := heap_at v6w (.cells #[.slice gag c.1.1.length gcg, .slice gbg c.1.2.length gdg, .slice hag c.2.1.length hcg, .int .i64 c.2.2.1, .int .i64 c.2.2.2.1, .int .i64 c.2.2.2.2.1.1, .int .i64 c.2.2.2.2.1.2.1, .slice iag c.2.2.2.2.1.2.2.length icg, .slice jag c.2.2.2.2.2.length jcg] 39)
    have bzZG := box_below v6w (.cells #[.slice gag c.1.1.length gcg, .slice gbg c.1.2.length gdg, .slice hag c.2.1.length hcg, .int .i64 c.2.2.1, .int .i64 c.2.2.2.1, .int .i64 c.2.2.2.2.1.1, .int .i64 c.2.2.2.2.1.2.1, .slice iag c.2.2.2.2.1.2.2.length icg, .slice jag c.2.2.2.2.2.length jcg] 39)
    have QZG : v6w.heap.size < v2w.heap.size ∨ v3w.heap.size ≤ v6w.heap.size := .inr Q.2
    have XZG : v6w.heap.size < v4w.heap.size ∨ v5w.heap.size ≤ v6w.heap.size := .inr X.2
    have GZG : v6w.heap.size < v5w.heap.size ∨ v6w.heap.size ≤ v6w.heap.size := .inr G.2
    replace b0 := below_step b0 bzZG
    replace ZQ := row_keep bzZG ZQ
    replace Q := owned_next Q bzZG
    replace X := owned_next X bzZG
    replace G := owned_next G bzZG
    clear bzZG
    generalize v6w.alloc (.cells #[.slice gag c.1.1.length gcg, .slice gbg c.1.2.length gdg, .slice hag c.2.1.length hcg, .int .i64 c.2.2.1, .int .i64 c.2.2.2.1, .int .i64 c.2.2.2.2.1.1, .int .i64 c.2.2.2.2.1.2.1, .slice iag c.2.2.2.2.1.2.2.length icg, .slice jag c.2.2.2.2.2.length jcg] 39) = v7w at b0 ZQ ZG Q X G ⊢
    refine (eqCore_u [.slice gag c.1.1.length gcg, .slice gbg c.1.2.length gdg, .slice hag c.2.1.length hcg, .int .i64 c.2.2.1, .int .i64 c.2.2.2.1, .int .i64 c.2.2.2.2.1.1, .int .i64 c.2.2.2.2.1.2.1, .slice iag c.2.2.2.2.1.2.2.length icg, .slice jag c.2.2.2.2.2.length jcg] [.slice gaq c.1.1.length gcq, .slice gbq c.1.2.length gdq, .slice haq c.2.1.length hcq, .int .i64 c.2.2.1, .int .i64 c.2.2.2.1, .int .i64 c.2.2.2.2.1.1, .int .i64 c.2.2.2.2.1.2.1, .slice iaq c.2.2.2.2.1.2.2.length icq, .slice jaq c.2.2.2.2.2.length jcq] c _ (coreR.own_rd G.1) (coreR.own_rd Q.1) hcl).mono ?_
    rintro e v8w ⟨rfl, bq⟩
    replace b0 := below_step b0 bq
    replace ZQ := row_keep bq ZQ
    replace ZG := row_keep bq ZG
    replace Q := owned_next Q bq
    replace X := owned_next X bq
    replace G := owned_next G bq
    clear bq
    obtain ⟨ZQc0, ZQc1, ZQc2, ZQc3, ZQc4, ZQc5, ZQc6, ZQc7, ZQc8⟩ := cells_core ZQ
    have ZQlt := (Array.getElem?_eq_some_iff.1 ZQ).1
    obtain ⟨ZGc0, ZGc1, ZGc2, ZGc3, ZGc4, ZGc5, ZGc6, ZGc7, ZGc8⟩ := cells_core ZG
    have ZGlt := (Array.getElem?_eq_some_iff.1 ZG).1
    go_wp2_with fail
    clear ZQc0 ZQc1 ZQc2 ZQc3 ZQc4 ZQc5 ZQc6 ZQc7 ZQc8 ZQlt ZGc0 ZGc1 ZGc2 ZGc3 ZGc4 ZGc5 ZGc6 ZGc7 ZGc8 ZGlt
    refine (toOpS_rep a2 x2 cap2 _ (HR.out _ b0) hbk).mono ?_
    rintro e v9w ⟨vv, rfl, mm⟩
    obtain ⟨oay, ocy, ro, -, -, -⟩ := opsR.own_rd mm.1
    simp only [List.cons.injEq, and_true] at ro
    obtain rfl := ro
    have YZQ : v3w.heap.size < v8w.heap.size ∨ v9w.heap.size ≤ v3w.heap.size := .inl (Array.getElem?_eq_some_iff.1 ZQ).1
    have YZG : v6w.heap.size < v8w.heap.size ∨ v9w.heap.size ≤ v6w.heap.size := .inl (Array.getElem?_eq_some_iff.1 ZG).1
    have QY : v3w.heap.size ≤ v8w.heap.size := Q.2
    have XY : v5w.heap.size ≤ v8w.heap.size := X.2
    have GY : v6w.heap.size ≤ v8w.heap.size := G.2
    have Ylo : w.heap.size ≤ v8w.heap.size := b0.size
    have Y := owned_made (R := opsR) mm
    have mbY := mm.2
    replace b0 := below_step b0 mbY
    replace ZQ := row_keep mbY ZQ
    replace ZG := row_keep mbY ZG
    replace Q := owned_next Q mbY
    replace X := owned_next X mbY
    replace G := owned_next G mbY
    clear mbY mm
    obtain ⟨ZQc0, ZQc1, ZQc2, ZQc3, ZQc4, ZQc5, ZQc6, ZQc7, ZQc8⟩ := cells_core ZQ
    have ZQlt := (Array.getElem?_eq_some_iff.1 ZQ).1
    obtain ⟨ZGc0, ZGc1, ZGc2, ZGc3, ZGc4, ZGc5, ZGc6, ZGc7, ZGc8⟩ := cells_core ZG
    have ZGlt := (Array.getElem?_eq_some_iff.1 ZG).1
    go_wp2_with fail
    clear ZQc0 ZQc1 ZQc2 ZQc3 ZQc4 ZQc5 ZQc6 ZQc7 ZQc8 ZQlt ZGc0 ZGc1 ZGc2 ZGc3 ZGc4 ZGc5 ZGc6 ZGc7 ZGc8 ZGlt
    refine (eqOps_u [.slice oax x2.length ocx] [.slice oay x2.length ocy] x2 _ (opsR.own_rd X.1) (opsR.own_rd Y.1) hbl).mono ?_
    rintro e v10w ⟨rfl, bq⟩
    replace b0 := below_step b0 bq
    replace ZQ := row_keep bq ZQ
    replace ZG := row_keep bq ZG
    replace Q := owned_next Q bq
    replace X := owned_next X bq
    replace G := owned_next G bq
    replace Y := owned_next Y bq
    clear bq
    clear Y
    obtain ⟨ZQc0, ZQc1, ZQc2, ZQc3, ZQc4, ZQc5, ZQc6, ZQc7, ZQc8⟩ := cells_core ZQ
    have ZQlt := (Array.getElem?_eq_some_iff.1 ZQ).1
    obtain ⟨ZGc0, ZGc1, ZGc2, ZGc3, ZGc4, ZGc5, ZGc6, ZGc7, ZGc8⟩ := cells_core ZG
    have ZGlt := (Array.getElem?_eq_some_iff.1 ZG).1
    go_wp2_with fail
    clear ZQc0 ZQc1 ZQc2 ZQc3 ZQc4 ZQc5 ZQc6 ZQc7 ZQc8 ZQlt ZGc0 ZGc1 ZGc2 ZGc3 ZGc4 ZGc5 ZGc6 ZGc7 ZGc8 ZGlt
    refine (mkOps_u _ [.slice oax x2.length ocx] x2 1 _ X.1 (by decide) (by rw [HKX.out]; exact hxm) hbl).mono ?_
    rintro e v11w ⟨rfl, gm, ch⟩
    rw [HKX.out]
    replace b0 := chg_b0 b0 ch Xlo
    replace ZQ := row_chg ZQ ch XZQ
    replace ZG := row_chg ZG ch XZG
    replace Q := owned_chg Q ch (.inl QX)
    replace G := owned_chg G ch (.inr XG)
    have XM : Owned opsR (v4w.heap.size) (v5w.heap.size) v11w [.slice oax x2.length ocx] (opsM.mV 1 x2) := And.intro gm (Nat.le_trans X.2 ch.size)
    clear ch X gm
    have XMZQ := XZQ
    have XMZG := XZG
    have XMlo := Xlo
    have QXM := QX
    have XMG := XG
    obtain ⟨ZQc0, ZQc1, ZQc2, ZQc3, ZQc4, ZQc5, ZQc6, ZQc7, ZQc8⟩ := cells_core ZQ
    have ZQlt := (Array.getElem?_eq_some_iff.1 ZQ).1
    obtain ⟨ZGc0, ZGc1, ZGc2, ZGc3, ZGc4, ZGc5, ZGc6, ZGc7, ZGc8⟩ := cells_core ZG
    have ZGlt := (Array.getElem?_eq_some_iff.1 ZG).1
    go_wp2_with fail
    clear ZQc0 ZQc1 ZQc2 ZQc3 ZQc4 ZQc5 ZQc6 ZQc7 ZQc8 ZQlt ZGc0 ZGc1 ZGc2 ZGc3 ZGc4 ZGc5 ZGc6 ZGc7 ZGc8 ZGlt
    refine (eqCore_u [.slice gag c.1.1.length gcg, .slice gbg c.1.2.length gdg, .slice hag c.2.1.length hcg, .int .i64 c.2.2.1, .int .i64 c.2.2.2.1, .int .i64 c.2.2.2.2.1.1, .int .i64 c.2.2.2.2.1.2.1, .slice iag c.2.2.2.2.1.2.2.length icg, .slice jag c.2.2.2.2.2.length jcg] [.slice gaq c.1.1.length gcq, .slice gbq c.1.2.length gdq, .slice haq c.2.1.length hcq, .int .i64 c.2.2.1, .int .i64 c.2.2.2.1, .int .i64 c.2.2.2.2.1.1, .int .i64 c.2.2.2.2.1.2.1, .slice iaq c.2.2.2.2.1.2.2.length icq, .slice jaq c.2.2.2.2.2.length jcq] c _ (coreR.own_rd G.1) (coreR.own_rd Q.1) hcl).mono ?_
    rintro e v12w ⟨rfl, bq⟩
    replace b0 := below_step b0 bq
    replace ZQ := row_keep bq ZQ
    replace ZG := row_keep bq ZG
    replace Q := owned_next Q bq
    replace XM := owned_next XM bq
    replace G := owned_next G bq
    clear bq
    clear XM
    obtain ⟨ZQc0, ZQc1, ZQc2, ZQc3, ZQc4, ZQc5, ZQc6, ZQc7, ZQc8⟩ := cells_core ZQ
    have ZQlt := (Array.getElem?_eq_some_iff.1 ZQ).1
    obtain ⟨ZGc0, ZGc1, ZGc2, ZGc3, ZGc4, ZGc5, ZGc6, ZGc7, ZGc8⟩ := cells_core ZG
    have ZGlt := (Array.getElem?_eq_some_iff.1 ZG).1
    go_wp2_with fail
    clear ZQc0 ZQc1 ZQc2 ZQc3 ZQc4 ZQc5 ZQc6 ZQc7 ZQc8 ZQlt ZGc0 ZGc1 ZGc2 ZGc3 ZGc4 ZGc5 ZGc6 ZGc7 ZGc8 ZGlt
    refine (mkCore_u _ [.slice gag c.1.1.length gcg, .slice gbg c.1.2.length gdg, .slice hag c.2.1.length hcg, .int .i64 c.2.2.1, .int .i64 c.2.2.2.1, .int .i64 c.2.2.2.2.1.1, .int .i64 c.2.2.2.2.1.2.1, .slice iag c.2.2.2.2.1.2.2.length icg, .slice jag c.2.2.2.2.2.length jcg] c 1 _ G.1 (by decide) (by rw [HKC.out]; exact hgm) hcl).mono ?_
    rintro e v13w ⟨rfl, gm, ch⟩
    rw [HKC.out]
    replace b0 := chg_b0 b0 ch Glo
    replace ZQ := row_chg ZQ ch GZQ
    replace ZG := row_chg ZG ch GZG
    replace Q := owned_chg Q ch (.inl QG)
    have GM : Owned coreR (v5w.heap.size) (v6w.heap.size) v13w [.slice gag c.1.1.length gcg, .slice gbg c.1.2.length gdg, .slice hag c.2.1.length hcg, .int .i64 c.2.2.1, .int .i64 c.2.2.2.1, .int .i64 c.2.2.2.2.1.1, .int .i64 c.2.2.2.2.1.2.1, .slice iag c.2.2.2.2.1.2.2.length icg, .slice jag c.2.2.2.2.2.length jcg] (coreM.mV 1 c) := And.intro gm (Nat.le_trans G.2 ch.size)
    clear ch G gm
    have GMZQ := GZQ
    have GMZG := GZG
    have GMlo := Glo
    have QGM := QG
    obtain ⟨ZQc0, ZQc1, ZQc2, ZQc3, ZQc4, ZQc5, ZQc6, ZQc7, ZQc8⟩ := cells_core ZQ
    have ZQlt := (Array.getElem?_eq_some_iff.1 ZQ).1
    obtain ⟨ZGc0, ZGc1, ZGc2, ZGc3, ZGc4, ZGc5, ZGc6, ZGc7, ZGc8⟩ := cells_core ZG
    have ZGlt := (Array.getElem?_eq_some_iff.1 ZG).1
    go_wp2_with fail
    clear ZQc0 ZQc1 ZQc2 ZQc3 ZQc4 ZQc5 ZQc6 ZQc7 ZQc8 ZQlt ZGc0 ZGc1 ZGc2 ZGc3 ZGc4 ZGc5 ZGc6 ZGc7 ZGc8 ZGlt
    refine (hdCore_u [.slice gag c.1.1.length gcg, .slice gbg c.1.2.length gdg, .slice hag c.2.1.length hcg, .int .i64 c.2.2.1, .int .i64 c.2.2.2.1, .int .i64 c.2.2.2.2.1.1, .int .i64 c.2.2.2.2.1.2.1, .slice iag c.2.2.2.2.1.2.2.length icg, .slice jag c.2.2.2.2.2.length jcg] c 1 _ (coreR.own_rd GM.1) (by decide) (by rw [HKC.out]; exact hgm) hcl).mono ?_
    rintro e v14w ⟨rfl, bq⟩
    rw [HKC.out]
    replace b0 := below_step b0 bq
    replace ZQ := row_keep bq ZQ
    replace ZG := row_keep bq ZG
    replace Q := owned_next Q bq
    replace GM := owned_next GM bq
    clear bq
    obtain ⟨ZQc0, ZQc1, ZQc2, ZQc3, ZQc4, ZQc5, ZQc6, ZQc7, ZQc8⟩ := cells_core ZQ
    have ZQlt := (Array.getElem?_eq_some_iff.1 ZQ).1
    obtain ⟨ZGc0, ZGc1, ZGc2, ZGc3, ZGc4, ZGc5, ZGc6, ZGc7, ZGc8⟩ := cells_core ZG
    have ZGlt := (Array.getElem?_eq_some_iff.1 ZG).1
    go_wp2_with fail
    clear ZQc0 ZQc1 ZQc2 ZQc3 ZQc4 ZQc5 ZQc6 ZQc7 ZQc8 ZQlt ZGc0 ZGc1 ZGc2 ZGc3 ZGc4 ZGc5 ZGc6 ZGc7 ZGc8 ZGlt
    refine (toOpS_rep a2 x2 cap2 _ (HR.out _ b0) hbk).mono ?_
    rintro e v15w ⟨vv, rfl, mm⟩
    obtain ⟨oau, ocu, ro, -, -, -⟩ := opsR.own_rd mm.1
    simp only [List.cons.injEq, and_true] at ro
    obtain rfl := ro
    have UZQ : v3w.heap.size < v14w.heap.size ∨ v15w.heap.size ≤ v3w.heap.size := .inl (Array.getElem?_eq_some_iff.1 ZQ).1
    have UZG : v6w.heap.size < v14w.heap.size ∨ v15w.heap.size ≤ v6w.heap.size := .inl (Array.getElem?_eq_some_iff.1 ZG).1
    have QU : v3w.heap.size ≤ v14w.heap.size := Q.2
    have GMU : v6w.heap.size ≤ v14w.heap.size := GM.2
    have Ulo : w.heap.size ≤ v14w.heap.size := b0.size
    have U := owned_made (R := opsR) mm
    have mbU := mm.2
    replace b0 := below_step b0 mbU
    replace ZQ := row_keep mbU ZQ
    replace ZG := row_keep mbU ZG
    replace Q := owned_next Q mbU
    replace GM := owned_next GM mbU
    clear mbU mm
    obtain ⟨ZQc0, ZQc1, ZQc2, ZQc3, ZQc4, ZQc5, ZQc6, ZQc7, ZQc8⟩ := cells_core ZQ
    have ZQlt := (Array.getElem?_eq_some_iff.1 ZQ).1
    obtain ⟨ZGc0, ZGc1, ZGc2, ZGc3, ZGc4, ZGc5, ZGc6, ZGc7, ZGc8⟩ := cells_core ZG
    have ZGlt := (Array.getElem?_eq_some_iff.1 ZG).1
    go_wp2_with fail
    clear ZQc0 ZQc1 ZQc2 ZQc3 ZQc4 ZQc5 ZQc6 ZQc7 ZQc8 ZQlt ZGc0 ZGc1 ZGc2 ZGc3 ZGc4 ZGc5 ZGc6 ZGc7 ZGc8 ZGlt
    refine (CIM.out _ _ (opsR.own_rd U.1) hlen).mono ?_
    rintro e v16w ⟨ds, rfl, mm⟩
    obtain ⟨gah, gch, gbh, gdh, hah, hch, iah, ich, jah, jch, rfl⟩ := core_shape (coreR.own_rd mm.1)
    rw [show aggV [.slice gah c.1.1.length gch, .slice gbh c.1.2.length gdh, .slice hah c.2.1.length hch, .int .i64 c.2.2.1, .int .i64 c.2.2.2.1, .int .i64 c.2.2.2.2.1.1, .int .i64 c.2.2.2.2.1.2.1, .slice iah c.2.2.2.2.1.2.2.length ich, .slice jah c.2.2.2.2.2.length jch] = .agg #[.slice gah c.1.1.length gch, .slice gbh c.1.2.length gdh, .slice hah c.2.1.length hch, .int .i64 c.2.2.1, .int .i64 c.2.2.2.1, .int .i64 c.2.2.2.2.1.1, .int .i64 c.2.2.2.2.1.2.1, .slice iah c.2.2.2.2.1.2.2.length ich, .slice jah c.2.2.2.2.2.length jch] from rfl]
    have HZQ : v3w.heap.size < v15w.heap.size ∨ v16w.heap.size ≤ v3w.heap.size := .inl (Array.getElem?_eq_some_iff.1 ZQ).1
    have HZG : v6w.heap.size < v15w.heap.size ∨ v16w.heap.size ≤ v6w.heap.size := .inl (Array.getElem?_eq_some_iff.1 ZG).1
    have QH : v3w.heap.size ≤ v15w.heap.size := Q.2
    have GMH : v6w.heap.size ≤ v15w.heap.size := GM.2
    have UH : v15w.heap.size ≤ v15w.heap.size := U.2
    have Hlo : w.heap.size ≤ v15w.heap.size := b0.size
    have H := owned_made (R := coreR) mm
    have mbH := mm.2
    replace b0 := below_step b0 mbH
    replace ZQ := row_keep mbH ZQ
    replace ZG := row_keep mbH ZG
    replace Q := owned_next Q mbH
    replace GM := owned_next GM mbH
    replace U := owned_next U mbH
    clear mbH mm
    obtain ⟨ZQc0, ZQc1, ZQc2, ZQc3, ZQc4, ZQc5, ZQc6, ZQc7, ZQc8⟩ := cells_core ZQ
    have ZQlt := (Array.getElem?_eq_some_iff.1 ZQ).1
    obtain ⟨ZGc0, ZGc1, ZGc2, ZGc3, ZGc4, ZGc5, ZGc6, ZGc7, ZGc8⟩ := cells_core ZG
    have ZGlt := (Array.getElem?_eq_some_iff.1 ZG).1
    go_wp2_with fail
    clear ZQc0 ZQc1 ZQc2 ZQc3 ZQc4 ZQc5 ZQc6 ZQc7 ZQc8 ZQlt ZGc0 ZGc1 ZGc2 ZGc3 ZGc4 ZGc5 ZGc6 ZGc7 ZGc8 ZGlt
    have ZH := heap_at v16w (.cells #[.slice gah c.1.1.length gch, .slice gbh c.1.2.length gdh, .slice hah c.2.1.length hch, .int .i64 c.2.2.1, .int .i64 c.2.2.2.1, .int .i64 c.2.2.2.2.1.1, .int .i64 c.2.2.2.2.1.2.1, .slice iah c.2.2.2.2.1.2.2.length ich, .slice jah c.2.2.2.2.2.length jch] 39)
    have bzZH := box_below v16w (.cells #[.slice gah c.1.1.length gch, .slice gbh c.1.2.length gdh, .slice hah c.2.1.length hch, .int .i64 c.2.2.1, .int .i64 c.2.2.2.1, .int .i64 c.2.2.2.2.1.1, .int .i64 c.2.2.2.2.1.2.1, .slice iah c.2.2.2.2.1.2.2.length ich, .slice jah c.2.2.2.2.2.length jch] 39)
    have QZH : v16w.heap.size < v2w.heap.size ∨ v3w.heap.size ≤ v16w.heap.size := .inr Q.2
    have GMZH : v16w.heap.size < v5w.heap.size ∨ v6w.heap.size ≤ v16w.heap.size := .inr GM.2
    have UZH : v16w.heap.size < v14w.heap.size ∨ v15w.heap.size ≤ v16w.heap.size := .inr U.2
    have HZH : v16w.heap.size < v15w.heap.size ∨ v16w.heap.size ≤ v16w.heap.size := .inr H.2
    replace b0 := below_step b0 bzZH
    replace ZQ := row_keep bzZH ZQ
    replace ZG := row_keep bzZH ZG
    replace Q := owned_next Q bzZH
    replace GM := owned_next GM bzZH
    replace U := owned_next U bzZH
    replace H := owned_next H bzZH
    clear bzZH
    generalize v16w.alloc (.cells #[.slice gah c.1.1.length gch, .slice gbh c.1.2.length gdh, .slice hah c.2.1.length hch, .int .i64 c.2.2.1, .int .i64 c.2.2.2.1, .int .i64 c.2.2.2.2.1.1, .int .i64 c.2.2.2.2.1.2.1, .slice iah c.2.2.2.2.1.2.2.length ich, .slice jah c.2.2.2.2.2.length jch] 39) = v17w at b0 ZQ ZG ZH Q GM U H ⊢
    clear U
    refine (eqCore_u [.slice gah c.1.1.length gch, .slice gbh c.1.2.length gdh, .slice hah c.2.1.length hch, .int .i64 c.2.2.1, .int .i64 c.2.2.2.1, .int .i64 c.2.2.2.2.1.1, .int .i64 c.2.2.2.2.1.2.1, .slice iah c.2.2.2.2.1.2.2.length ich, .slice jah c.2.2.2.2.2.length jch] [.slice gaq c.1.1.length gcq, .slice gbq c.1.2.length gdq, .slice haq c.2.1.length hcq, .int .i64 c.2.2.1, .int .i64 c.2.2.2.1, .int .i64 c.2.2.2.2.1.1, .int .i64 c.2.2.2.2.1.2.1, .slice iaq c.2.2.2.2.1.2.2.length icq, .slice jaq c.2.2.2.2.2.length jcq] c _ (coreR.own_rd H.1) (coreR.own_rd Q.1) hcl).mono ?_
    rintro e v18w ⟨rfl, bq⟩
    replace b0 := below_step b0 bq
    replace ZQ := row_keep bq ZQ
    replace ZG := row_keep bq ZG
    replace ZH := row_keep bq ZH
    replace Q := owned_next Q bq
    replace GM := owned_next GM bq
    replace H := owned_next H bq
    clear bq
    obtain ⟨ZQc0, ZQc1, ZQc2, ZQc3, ZQc4, ZQc5, ZQc6, ZQc7, ZQc8⟩ := cells_core ZQ
    have ZQlt := (Array.getElem?_eq_some_iff.1 ZQ).1
    obtain ⟨ZGc0, ZGc1, ZGc2, ZGc3, ZGc4, ZGc5, ZGc6, ZGc7, ZGc8⟩ := cells_core ZG
    have ZGlt := (Array.getElem?_eq_some_iff.1 ZG).1
    obtain ⟨ZHc0, ZHc1, ZHc2, ZHc3, ZHc4, ZHc5, ZHc6, ZHc7, ZHc8⟩ := cells_core ZH
    have ZHlt := (Array.getElem?_eq_some_iff.1 ZH).1
    go_wp2_with fail
    clear ZQc0 ZQc1 ZQc2 ZQc3 ZQc4 ZQc5 ZQc6 ZQc7 ZQc8 ZQlt ZGc0 ZGc1 ZGc2 ZGc3 ZGc4 ZGc5 ZGc6 ZGc7 ZGc8 ZGlt ZHc0 ZHc1 ZHc2 ZHc3 ZHc4 ZHc5 ZHc6 ZHc7 ZHc8 ZHlt
    refine (hdCore_u [.slice gag c.1.1.length gcg, .slice gbg c.1.2.length gdg, .slice hag c.2.1.length hcg, .int .i64 c.2.2.1, .int .i64 c.2.2.2.1, .int .i64 c.2.2.2.2.1.1, .int .i64 c.2.2.2.2.1.2.1, .slice iag c.2.2.2.2.1.2.2.length icg, .slice jag c.2.2.2.2.2.length jcg] c 1 _ (coreR.own_rd GM.1) (by decide) (by rw [HKC.out]; exact hgm) hcl).mono ?_
    rintro e v19w ⟨rfl, bq⟩
    rw [HKC.out]
    replace b0 := below_step b0 bq
    replace ZQ := row_keep bq ZQ
    replace ZG := row_keep bq ZG
    replace ZH := row_keep bq ZH
    replace Q := owned_next Q bq
    replace GM := owned_next GM bq
    replace H := owned_next H bq
    clear bq
    clear Q GM H ZQ ZG ZH
    go_wp2
    go_ret
    exact ⟨rfl, b0⟩
  · have HS : Hid (szI (opsM.bk x2) 1048576 = -1) := szI_no hf
    rw [HS.out]
    go_wp2
    go_ret
    exact ⟨rfl, b0⟩

set_option maxRecDepth 100000 in
theorem lifted (os : Os) (started : os.Started) (H : Type) (enc : TypeId × Value → H) :
    ReturnsInHanded {} Try.checked os 4 .any (Rows.fnExactNewCoreSpec.pre6 enc Try.prog Try.f4 Rows.fnExactNewCoreRow.domain false) (Rows.fnExactNewCoreSpec.post enc Try.prog Try.f4 false true false false) := by
  refine returnsInHanded_of_change (C := Try.checked) own started (by kernel_rfl) Try.func4
    (ChangeSpec.witness6 (enc := enc) (C := Try.checked) false ⟨#[], #[.int .i64 0, .int .i64 0, .slice none 0 0], []⟩ 8 (by kernel_rfl) (by kernel_rfl) (by kernel_rfl) (by kernel_rfl)) ?_
  intro W base args ds gs before hval0 hW hcnd _
  have hval : ∀ (j : Nat) t v, Try.f4.params[j]? = some t → args[j]? = some v → Value.okWide Try.prog W .any base t v := hval0
  have hW' := hW
  obtain ⟨p, q, hA0, hV, rfl, hfz, hnd⟩ := hW
  have hA : DataW.TrodAll enc Try.prog W 0 (fun _ => true) true Try.f4.params.toList args.toList ds p := hA0
  rw [Try.params4] at hA hval
  obtain ⟨v0, vs0, d0, ds0, p0, q0, hargs, rfl, rfl, h0, r0⟩ := trodAll_cons hA
  obtain ⟨v1, vs1, d1, ds1, p1, q1, rfl, rfl, rfl, h1, r1⟩ := trodAll_cons r0
  obtain ⟨v2, vs2, d2, ds2, p2, q2, rfl, rfl, rfl, h2, r2⟩ := trodAll_cons r1
  obtain ⟨rfl, rfl, rfl⟩ := trodAll_nil r2
  obtain rfl : args = #[v0, v1, v2] := by cases args; simp_all
  obtain ⟨rfl, rfl⟩ := trodVars_none hV
  have k0 := h0
  have lt0 : ∀ x ∈ p0, x.block < W.heap.size := by obtain ⟨m, hm⟩ := k0; exact DataW.trod_lt m _ _ _ hm
  have k1 := h1
  have lt1 : ∀ x ∈ p1, x.block < W.heap.size := by obtain ⟨m, hm⟩ := k1; exact DataW.trod_lt m _ _ _ hm
  have k2 := h2
  have lt2 : ∀ x ∈ p2, x.block < W.heap.size := by obtain ⟨m, hm⟩ := k2; exact DataW.trod_lt m _ _ _ hm
  obtain ⟨a0, rfl, e0, f0, w0⟩ := open_int Try.underlying2 (hval 0 2 v0 rfl rfl) h0
  obtain ⟨a1, rfl, e1, f1, w1⟩ := open_int Try.underlying2 (hval 1 2 v1 rfl rfl) h1
  obtain ⟨x2, a2, cap2, hc2, l2, m2, w2⟩ := open_rep opens_ops h2
  obtain ⟨aa2, len2, cc2, rfl⟩ := okWide_slice Try.underlying26 (hval 2 26 v2 rfl rfl)
  simp only [Value.cells, List.cons.injEq, Value.slice.injEq, and_true] at hc2
  obtain ⟨rfl, rfl, rfl⟩ : a2 = aa2 ∧ x2.length = len2 ∧ cap2 = cc2 := ⟨hc2.1.symm, hc2.2.1.symm, hc2.2.2.symm⟩
  clear hA0 hval0
  refine (walk a0 w0 a1 w1 a2 cap2 x2 W w2 (Nat.le_trans l2 m2)).mono fun e W' ⟨he, bel⟩ => ?_
  subst he
  exact ⟨_, rfl, _, _, _, [], _, [], hW', trodAll_mk1 (shut_bool Try.underlying4 _), (trodAll_cons_mk (Below.trod laidOut (by kernel_rfl) (of_decide_eq_true (by kernel_rfl)) k0 bel lt0) (trodAll_cons_mk (Below.trod laidOut (by kernel_rfl) (of_decide_eq_true (by kernel_rfl)) k1 bel lt1) (trodAll_cons_mk (Below.trod laidOut (by kernel_rfl) (of_decide_eq_true (by kernel_rfl)) k2 bel lt2) trodAll_mk0))), rfl, bel.frame _, fun h => by cases h⟩

theorem over : Rows.fnExactNewCoreRow.holds Try.pinned (OpenSpec.ofChange Rows.fnExactNewCoreSpec) :=
  OpenClaim.holds_of_wide 4 Try.f4 rfl rfl rfl rfl rfl rfl rfl ⟨rfl, rfl, rfl, rfl, rfl⟩ rfl rfl rfl rfl rfl (by kernel_rfl) Try.func4 (by kernel_rfl)
    (of_decide_eq_true (by kernel_rfl)) (by unfold Func.isWrapper; first | (rw [if_pos (by decide +kernel)]; kernel_rfl) | (rw [if_neg (by decide +kernel)]; exact ⟨rfl, rfl⟩))
    (fun os started H enc _ => lifted os started H enc)

theorem proved : Rows.FnExactNewCoreSaid :=
  over
#print axioms proved
end Go.Proofs.Ytbcggkfbahmpoaa.fnExactNewCore
