/- At every net and every letter, impl.Sent answers as spec.Sent does, field by field, writes into no argument, keeps nothing of one, and its answer owns its memory, behind another call too: the law FnExactSent returns true and changes nothing that was there. No condition. -/
import Derived.Test.YtbbplcpfkmmcdaaRows
import Derived.Test.YtbbplcpfkmmcdaaOwnedG
import Derived.Test.YtbbplcpfkmmcdaaImplSent
import Derived.WalkKit
import Derived.ProofKit
import Derived.OpenShut
import Derived.ShutString
import Derived.ChangeOld
import Derived.Below
import Derived.Carry
import Derived.Lib.SmallJoins
namespace Go.Proofs.Ytbbplcpfkmmcdaa.fnExactSent
open Go.ChangeShapes Go.WideShapes Go.ChangeAt Go.RowKit Go.Joins
open Go.ChangeMaps (open_string shut_string)
set_option linter.unusedVariables false

theorem own : ownKnob Try.prog.godebug = none := by kernel_rfl
theorem laidOut : laidOutB Try.prog = true := by kernel_rfl

theorem sent_small (xs : List MsgD) (u : MsgD) : msgsM.bk (sentI xs u).1 ≤ msgsM.bk xs + msgM.bk u + 1 := by
  have hb : ∀ l : List MsgD, msgsM.bk l = l.length + sumbk msgM l := fun _ => rfl
  unfold sentI
  split
  · split
    · show msgsM.bk (xs ++ [u]) ≤ _
      rw [hb, hb]
      simp [sumbk]
      omega
    · show msgsM.bk xs ≤ _
      omega
  · show msgsM.bk [] ≤ _
    rw [hb]
    simp [sumbk]
set_option maxHeartbeats 8000000 in
set_option maxRecDepth 100000 in
theorem walk (a0 : Option Addr) (cap0 : Nat) (x0 : RepOf (msgsR)) (cs1 : Array Value) (x1 : RepOf (msgR)) (w : World) (w0 : SlRd msgR w a0 x0) (l0 : x0.length ≤ maxLen) (w1 : (msgR).rd w cs1.toList x1) :
    Calls Try.prog 6 #[.slice a0 x0.length cap0, .agg cs1] w fun e w' => e = .returned (.bool true) ∧ Below w.heap.size w w' := by
  obtain ⟨f0, f1, f2, f3, f4, d, f6⟩ := x1
  obtain ⟨ad, cpw, hcs, j0, j1, j2, j3, j4, j6, k1, k2, r3⟩ := msg_rd w1
  simp only at hcs j0 j1 j2 j3 j4 j6 k1 r3
  obtain rfl := arr_of hcs
  clear w1 hcs
  have m3 := Nat.le_trans k1 k2
  have HR : Hid (∀ W, Below w.heap.size w W → SlRd msgR W a0 x0) := fun W hb => slrd_keep w0 fun k hk => hb.block k hk
  have HW : Hid (SlRd intR w ad d) := r3
  have HJ : Hid (In64 f0 ∧ In64 f1 ∧ In64 f2 ∧ In64 f3 ∧ In64 f4 ∧ In64 f6) := ⟨j0, j1, j2, j3, j4, j6⟩
  clear w0 r3 j0 j1 j2 j3 j4 j6 k1 k2
  have A := heap_at w (.cells #[.int .i64 f0, .int .i64 f1, .int .i64 f2, .int .i64 f3, .int .i64 f4, .slice ad d.length cpw, .int .i64 f6] 46)
  have b0 := box_below w (.cells #[.int .i64 f0, .int .i64 f1, .int .i64 f2, .int .i64 f3, .int .i64 f4, .slice ad d.length cpw, .int .i64 f6] 46)
  go_enter Try.func6, Try.ntmps6
  go_wp2_with fail
  generalize w.alloc (.cells #[.int .i64 f0, .int .i64 f1, .int .i64 f2, .int .i64 f3, .int .i64 f4, .slice ad d.length cpw, .int .i64 f6] 46) = v0w at A b0 ⊢
  refine (szMsgS_rep a0 x0 cap0 1048576 _ (HR.out _ b0) (by decide) (by decide) l0).mono ?_
  rintro e w2 ⟨rfl, bb1⟩
  replace b0 := below_step b0 bb1
  replace A := row_keep bb1 A
  clear bb1
  by_cases hf : ((msgsM.bk x0 : Nat) : Int) ≤ 1048576
  · have HS : Hid (szI (msgsM.bk x0) 1048576 = 1048576 - (msgsM.bk x0 : Int)) := szI_yes hf
    have hf' : ¬ (1048576 - ((msgsM.bk x0 : Nat) : Int) < 0) := by omega
    have hbk : msgsM.bk x0 ≤ 1048576 := by omega
    have hcx := cnt_small7 (xs := x0) (by omega)
    rw [HS.out]
    obtain ⟨Ac0, Ac1, Ac2, Ac3, Ac4, Ac5, Ac6⟩ := cells_7 A
    have Alt := (Array.getElem?_eq_some_iff.1 A).1
    go_wp2_with fail
    clear Ac0 Ac1 Ac2 Ac3 Ac4 Ac5 Ac6 Alt
    refine (szMsg_rep f0 f1 f2 f3 f4 f6 d ad cpw (1048576 - (msgsM.bk x0 : Int)) _ (by omega) (by omega) m3).mono ?_
    rintro e w3 ⟨rfl, bb1⟩
    replace b0 := below_step b0 bb1
    replace A := row_keep bb1 A
    clear bb1
    have hwb := bk_msg (f0, f1, f2, f3, f4, d, f6)
    have hwl : intsM.bk d = d.length := bk_ints7 d
    simp only at hwb
    by_cases hg : ((msgM.bk (f0, f1, f2, f3, f4, d, f6) : Nat) : Int) ≤ 1048576 - (msgsM.bk x0 : Int)
    · have HS2 : Hid (szI (msgM.bk (f0, f1, f2, f3, f4, d, f6)) (1048576 - (msgsM.bk x0 : Int)) = 1048576 - (msgsM.bk x0 : Int) - (msgM.bk (f0, f1, f2, f3, f4, d, f6) : Int)) := szI_yes hg
      have hg' : ¬ (1048576 - (msgsM.bk x0 : Int) - ((msgM.bk (f0, f1, f2, f3, f4, d, f6) : Nat) : Int) < 0) := by omega
      have hdl : d.length ≤ 1048576 := by omega
      have hdb : intsM.bk d ≤ 1048576 := by omega
      have hdc : slcnt intM d ≤ 1048576 := by rw [slcnt_ints]; exact hdl
      rw [HS2.out]
      have hsm := sent_small x0 (f0, f1, f2, f3, f4, d, f6)
      generalize hDI : sentI x0 (f0, f1, f2, f3, f4, d, f6) = DI at hsm
      have HDI : Hid (sentI x0 (f0, f1, f2, f3, f4, d, f6) = DI) := hDI
      clear hDI
      obtain ⟨c, ok⟩ := DI
      simp only at hsm
      have CSP : Hid (∀ a cap ad cpw W, SlRd msgR W a x0 → SlRd intR W ad d → Calls Try.prog 14 #[.slice a x0.length cap, .agg #[.int .i64 f0, .int .i64 f1, .int .i64 f2, .int .i64 f3, .int .i64 f4, .slice ad d.length cpw, .int .i64 f6]] W fun e w' => ∃ av cv, e = .returned (.tuple #[.slice av c.length cv, .bool ok]) ∧ MadeR msgsR W w' [.slice av c.length cv] c) := fun a cap ad cpw W h1 h2 => by have := specSent_any a x0 cap f0 f1 f2 f3 f4 f6 d ad cpw W h1 l0 HJ.out.1 HJ.out.2.1 HJ.out.2.2.1 HJ.out.2.2.2.1 HJ.out.2.2.2.2.1 HJ.out.2.2.2.2.2 h2; rwa [HDI.out] at this
      have CIM : Hid (∀ a cap ad cpw W, SlRd msgR W a x0 → SlRd intR W ad d → Calls Try.prog 11 #[.slice a x0.length cap, .agg #[.int .i64 f0, .int .i64 f1, .int .i64 f2, .int .i64 f3, .int .i64 f4, .slice ad d.length cpw, .int .i64 f6]] W fun e w' => ∃ av cv, e = .returned (.tuple #[.slice av c.length cv, .bool ok]) ∧ MadeR msgsR W w' [.slice av c.length cv] c) := fun a cap ad cpw W h1 h2 => by have := implSent_any a x0 cap f0 f1 f2 f3 f4 f6 d ad cpw W h1 l0 HJ.out.1 HJ.out.2.1 HJ.out.2.2.1 HJ.out.2.2.2.1 HJ.out.2.2.2.2.1 HJ.out.2.2.2.2.2 h2; rwa [HDI.out] at this
      clear HDI
      have hcb : msgsM.bk c ≤ 2097152 := by omega
      have hc1 := cnt_small7 (xs := c) hcb
      have hq1 : ¬ ((1 : Int) + (slcnt msgM c : Int) < 0) := by omega
      have HM1 : Hid ((slmark msgM 1 c).length = c.length) := slmark_len _ _ _
      have CT : Hid (∀ W, Below w.heap.size w W → Calls Try.prog 26 #[.slice a0 x0.length cap0] W fun e w' => ∃ v, e = .returned v ∧ MadeR msgsR W w' [v] x0) := fun W hb => toMsgS_rep a0 x0 cap0 _ (HR.out _ hb) hbk
      have CW : Hid (∀ W, Below w.heap.size w W → Calls Try.prog 29 #[.agg #[.int .i64 f0, .int .i64 f1, .int .i64 f2, .int .i64 f3, .int .i64 f4, .slice ad d.length cpw, .int .i64 f6]] W fun e w' => ∃ av cv, e = .returned (.agg #[.int .i64 f0, .int .i64 f1, .int .i64 f2, .int .i64 f3, .int .i64 f4, .slice av d.length cv, .int .i64 f6]) ∧ MadeR msgR W w' [.int .i64 f0, .int .i64 f1, .int .i64 f2, .int .i64 f3, .int .i64 f4, .slice av d.length cv, .int .i64 f6] (f0, f1, f2, f3, f4, d, f6)) := fun W hb => toMsg_rep f0 f1 f2 f3 f4 f6 d ad cpw W HJ.out.1 HJ.out.2.1 HJ.out.2.2.1 HJ.out.2.2.2.1 HJ.out.2.2.2.2.1 HJ.out.2.2.2.2.2 (slrd_next HW.out hb) hdb
      obtain ⟨Ac0, Ac1, Ac2, Ac3, Ac4, Ac5, Ac6⟩ := cells_7 A
      have Alt := (Array.getElem?_eq_some_iff.1 A).1
      go_wp2_with fail
      clear Ac0 Ac1 Ac2 Ac3 Ac4 Ac5 Ac6 Alt
      go_cut [6, 7] from 27 to 34 (fun p q wx => ∃ lo hi av cv, p = .slice av c.length cv ∧ q = .bool ok ∧ w3.heap.size ≤ lo ∧ Owned msgsR lo hi wx [.slice av c.length cv] c ∧ Below w3.heap.size w3 wx)
      case first =>
        have B1 : Below w3.heap.size w3 w3.drew := (Below.refl _ _).drew
        obtain ⟨Ac0, Ac1, Ac2, Ac3, Ac4, Ac5, Ac6⟩ := cells_7 A
        have HA : Hid _ := A
        have HB : Hid _ := b0
        clear b0 A
        go_region_with (first | (go_at_call 26; refine (CT.out _ (below_step HB.out B1)).mono ?_; rintro e wq ⟨v, rfl, mm⟩; obtain ⟨at1, ct1, rfl⟩ := slown_val mm.1; replace B1 : Below w3.heap.size w3 wq := below_step B1 mm.2; have HT1 : Hid (SlRd msgR wq at1 x0) := msgs_rd mm.1; clear mm; clear Ac0 Ac1 Ac2 Ac3 Ac4 Ac5 Ac6; obtain ⟨Ac0, Ac1, Ac2, Ac3, Ac4, Ac5, Ac6⟩ := cells_7 (row_keep B1 HA.out)) | (go_at_call 29; refine (CW.out _ (below_step HB.out B1)).mono ?_; rintro e wr ⟨aw1, cw1, rfl, mm⟩; replace B1 : Below w3.heap.size w3 wr := below_step B1 mm.2; have HT2 : Hid (SlRd msgR wr at1 x0) := slrd_next HT1.out mm.2; have HT3 : Hid (SlRd intR wr aw1 d) := owned_msgd (owned_made mm); clear mm; clear Ac0 Ac1 Ac2 Ac3 Ac4 Ac5 Ac6; obtain ⟨Ac0, Ac1, Ac2, Ac3, Ac4, Ac5, Ac6⟩ := cells_7 (row_keep B1 HA.out)) | (go_at_call 14; refine (CSP.out at1 ct1 aw1 cw1 wr HT2.out HT3.out).mono ?_; rintro e wf ⟨av, cv, rfl, mm⟩; have B2 : Below w3.heap.size w3 wf := below_step B1 mm.2; have HP : Hid _ := mm; clear mm))
        all_goals go_wp2_with fail
        all_goals go_meet
        all_goals exact ⟨_, _, av, cv, rfl, rfl, B1.size, owned_made HP.out, B2⟩
      case rest =>
        obtain ⟨lo1, hi1, av1, cv1, rfl, rfl, hlo1, P, bq⟩ := hcut
        obtain ⟨v1w, hwn⟩ : ∃ x, x = wc := ⟨_, rfl⟩
        subst hwn
        have PA : w.heap.size < lo1 ∨ hi1 ≤ w.heap.size := .inl (Nat.lt_of_lt_of_le (Array.getElem?_eq_some_iff.1 A).1 hlo1)
        have Plo : w.heap.size ≤ lo1 := Nat.le_trans b0.size hlo1
        replace b0 := below_step b0 bq
        replace A := row_keep bq A
        clear bq
        obtain ⟨Ac0, Ac1, Ac2, Ac3, Ac4, Ac5, Ac6⟩ := cells_7 A
        have Alt := (Array.getElem?_eq_some_iff.1 A).1
        go_wp2_with fail
        clear Ac0 Ac1 Ac2 Ac3 Ac4 Ac5 Ac6 Alt
        refine (CT.out _ b0).mono ?_
        rintro e v2w ⟨v, rfl, mm⟩
        obtain ⟨av2, cv2, rfl⟩ := slown_val mm.1
        have XA : w.heap.size < v1w.heap.size ∨ v2w.heap.size ≤ w.heap.size := .inl (Array.getElem?_eq_some_iff.1 A).1
        have PX : hi1 ≤ v1w.heap.size := P.2
        have Xlo : w.heap.size ≤ v1w.heap.size := b0.size
        have X := owned_made (R := msgsR) mm
        have mbX := mm.2
        replace b0 := below_step b0 mbX
        replace A := row_keep mbX A
        replace P := owned_next P mbX
        clear mbX mm
        obtain ⟨Ac0, Ac1, Ac2, Ac3, Ac4, Ac5, Ac6⟩ := cells_7 A
        have Alt := (Array.getElem?_eq_some_iff.1 A).1
        go_wp2_with fail
        clear Ac0 Ac1 Ac2 Ac3 Ac4 Ac5 Ac6 Alt
        refine (CW.out _ b0).mono ?_
        rintro e v3w ⟨aw2, cw2, rfl, mm⟩
        have X1A : w.heap.size < v2w.heap.size ∨ v3w.heap.size ≤ w.heap.size := .inl (Array.getElem?_eq_some_iff.1 A).1
        have PX1 : hi1 ≤ v2w.heap.size := P.2
        have XX1 : v2w.heap.size ≤ v2w.heap.size := X.2
        have X1lo : w.heap.size ≤ v2w.heap.size := b0.size
        have X1 := owned_made (R := msgR) mm
        have mbX1 := mm.2
        replace b0 := below_step b0 mbX1
        replace A := row_keep mbX1 A
        replace P := owned_next P mbX1
        replace X := owned_next X mbX1
        clear mbX1 mm
        obtain ⟨Ac0, Ac1, Ac2, Ac3, Ac4, Ac5, Ac6⟩ := cells_7 A
        have Alt := (Array.getElem?_eq_some_iff.1 A).1
        go_wp2_with fail
        clear Ac0 Ac1 Ac2 Ac3 Ac4 Ac5 Ac6 Alt
        have ZX1 := heap_at v3w (.cells #[.int .i64 f0, .int .i64 f1, .int .i64 f2, .int .i64 f3, .int .i64 f4, .slice aw2 d.length cw2, .int .i64 f6] 27)
        have bzZX1 := box_below v3w (.cells #[.int .i64 f0, .int .i64 f1, .int .i64 f2, .int .i64 f3, .int .i64 f4, .slice aw2 d.length cw2, .int .i64 f6] 27)
        have PZX1 : v3w.heap.size < lo1 ∨ hi1 ≤ v3w.heap.size := .inr P.2
        have XZX1 : v3w.heap.size < v1w.heap.size ∨ v2w.heap.size ≤ v3w.heap.size := .inr X.2
        have X1ZX1 : v3w.heap.size < v2w.heap.size ∨ v3w.heap.size ≤ v3w.heap.size := .inr X1.2
        replace b0 := below_step b0 bzZX1
        replace A := row_keep bzZX1 A
        replace P := owned_next P bzZX1
        replace X := owned_next X bzZX1
        replace X1 := owned_next X1 bzZX1
        clear bzZX1
        generalize v3w.alloc (.cells #[.int .i64 f0, .int .i64 f1, .int .i64 f2, .int .i64 f3, .int .i64 f4, .slice aw2 d.length cw2, .int .i64 f6] 27) = v4w at b0 A ZX1 P X X1 ⊢
        refine (CIM.out _ _ _ _ _ (owned_msgs X) (owned_msgd X1)).mono ?_
        rintro e v5w ⟨av3, cv3, rfl, mm⟩
        have GA : w.heap.size < v4w.heap.size ∨ v5w.heap.size ≤ w.heap.size := .inl (Array.getElem?_eq_some_iff.1 A).1
        have GZX1 : v3w.heap.size < v4w.heap.size ∨ v5w.heap.size ≤ v3w.heap.size := .inl (Array.getElem?_eq_some_iff.1 ZX1).1
        have PG : hi1 ≤ v4w.heap.size := P.2
        have XG : v2w.heap.size ≤ v4w.heap.size := X.2
        have X1G : v3w.heap.size ≤ v4w.heap.size := X1.2
        have Glo : w.heap.size ≤ v4w.heap.size := b0.size
        have G := owned_made (R := msgsR) mm
        have mbG := mm.2
        replace b0 := below_step b0 mbG
        replace A := row_keep mbG A
        replace ZX1 := row_keep mbG ZX1
        replace P := owned_next P mbG
        replace X := owned_next X mbG
        replace X1 := owned_next X1 mbG
        clear mbG mm
        obtain ⟨Ac0, Ac1, Ac2, Ac3, Ac4, Ac5, Ac6⟩ := cells_7 A
        have Alt := (Array.getElem?_eq_some_iff.1 A).1
        obtain ⟨ZX1c0, ZX1c1, ZX1c2, ZX1c3, ZX1c4, ZX1c5, ZX1c6⟩ := cells_7 ZX1
        have ZX1lt := (Array.getElem?_eq_some_iff.1 ZX1).1
        go_wp2_with fail
        clear Ac0 Ac1 Ac2 Ac3 Ac4 Ac5 Ac6 Alt ZX1c0 ZX1c1 ZX1c2 ZX1c3 ZX1c4 ZX1c5 ZX1c6 ZX1lt
        refine (eqMsgS_rep av3 av1 c cv3 cv1 _ (owned_msgs G) (owned_msgs P) (by have : (slM msgM).bk c = msgsM.bk c := rfl; omega)).mono ?_
        rintro e v6w ⟨rfl, bq⟩
        replace b0 := below_step b0 bq
        replace A := row_keep bq A
        replace ZX1 := row_keep bq ZX1
        replace P := owned_next P bq
        replace X := owned_next X bq
        replace X1 := owned_next X1 bq
        replace G := owned_next G bq
        clear bq
        obtain ⟨Ac0, Ac1, Ac2, Ac3, Ac4, Ac5, Ac6⟩ := cells_7 A
        have Alt := (Array.getElem?_eq_some_iff.1 A).1
        obtain ⟨ZX1c0, ZX1c1, ZX1c2, ZX1c3, ZX1c4, ZX1c5, ZX1c6⟩ := cells_7 ZX1
        have ZX1lt := (Array.getElem?_eq_some_iff.1 ZX1).1
        go_wp2_with fail
        clear Ac0 Ac1 Ac2 Ac3 Ac4 Ac5 Ac6 Alt ZX1c0 ZX1c1 ZX1c2 ZX1c3 ZX1c4 ZX1c5 ZX1c6 ZX1lt
        refine (CT.out _ b0).mono ?_
        rintro e v7w ⟨v, rfl, mm⟩
        obtain ⟨av4, cv4, rfl⟩ := slown_val mm.1
        have S4 := msgs_rd mm.1
        have mb := mm.2
        replace b0 := below_step b0 mb
        replace A := row_keep mb A
        replace ZX1 := row_keep mb ZX1
        replace P := owned_next P mb
        replace X := owned_next X mb
        replace X1 := owned_next X1 mb
        replace G := owned_next G mb
        clear mb mm
        obtain ⟨Ac0, Ac1, Ac2, Ac3, Ac4, Ac5, Ac6⟩ := cells_7 A
        have Alt := (Array.getElem?_eq_some_iff.1 A).1
        obtain ⟨ZX1c0, ZX1c1, ZX1c2, ZX1c3, ZX1c4, ZX1c5, ZX1c6⟩ := cells_7 ZX1
        have ZX1lt := (Array.getElem?_eq_some_iff.1 ZX1).1
        go_wp2_with fail
        clear Ac0 Ac1 Ac2 Ac3 Ac4 Ac5 Ac6 Alt ZX1c0 ZX1c1 ZX1c2 ZX1c3 ZX1c4 ZX1c5 ZX1c6 ZX1lt
        refine (eqMsgS_rep av2 av4 x0 cv2 cv4 _ (owned_msgs X) S4 (by have : (slM msgM).bk x0 = msgsM.bk x0 := rfl; omega)).mono ?_
        clear S4
        rintro e v8w ⟨rfl, bq⟩
        replace b0 := below_step b0 bq
        replace A := row_keep bq A
        replace ZX1 := row_keep bq ZX1
        replace P := owned_next P bq
        replace X := owned_next X bq
        replace X1 := owned_next X1 bq
        replace G := owned_next G bq
        clear bq
        obtain ⟨Ac0, Ac1, Ac2, Ac3, Ac4, Ac5, Ac6⟩ := cells_7 A
        have Alt := (Array.getElem?_eq_some_iff.1 A).1
        obtain ⟨ZX1c0, ZX1c1, ZX1c2, ZX1c3, ZX1c4, ZX1c5, ZX1c6⟩ := cells_7 ZX1
        have ZX1lt := (Array.getElem?_eq_some_iff.1 ZX1).1
        go_wp2_with fail
        clear Ac0 Ac1 Ac2 Ac3 Ac4 Ac5 Ac6 Alt ZX1c0 ZX1c1 ZX1c2 ZX1c3 ZX1c4 ZX1c5 ZX1c6 ZX1lt
        go_cut [63] from 59 to 63 (fun q wx => q = .bool false ∧ Below v8w.heap.size v8w wx)
        case first =>
          have B1 : Below v8w.heap.size v8w v8w.drew := (Below.refl _ _).drew
          have HA : Hid _ := A
          have HZ : Hid _ := ZX1
          have HX1 : Hid _ := owned_msgd X1
          have HB : Hid _ := b0
          clear b0 A ZX1 P X X1 G
          obtain ⟨Ac0, Ac1, Ac2, Ac3, Ac4, Ac5, Ac6⟩ := cells_7 (row_keep B1 HA.out)
          obtain ⟨Zc0, Zc1, Zc2, Zc3, Zc4, Zc5, Zc6⟩ := cells_7 (row_keep B1 HZ.out)
          go_region_with (first | (go_at_call 29; refine (CW.out _ (below_step HB.out B1)).mono ?_; rintro e wq ⟨aw4, cw4, rfl, mm⟩; replace B1 : Below v8w.heap.size v8w wq := below_step B1 mm.2; have S4 : Hid (SlRd intR wq aw4 d) := owned_msgd (owned_made mm); clear mm; clear Ac0 Zc0 Ac1 Zc1 Ac2 Zc2 Ac3 Zc3 Ac4 Zc4 Ac5 Zc5 Ac6 Zc6; obtain ⟨Ac0, Ac1, Ac2, Ac3, Ac4, Ac5, Ac6⟩ := cells_7 (row_keep B1 HA.out); obtain ⟨Zc0, Zc1, Zc2, Zc3, Zc4, Zc5, Zc6⟩ := cells_7 (row_keep B1 HZ.out)) | (go_at_call 30; refine (eqMsg_rep f0 f1 f2 f3 f4 f6 d aw2 aw4 cw2 cw4 _ (slrd_next HX1.out B1) S4.out (by omega)).mono ?_; rintro e wr ⟨rfl, mb⟩; have B2 : Below v8w.heap.size v8w wr := below_step B1 mb; clear mb))
          all_goals go_wp2_with fail
          all_goals go_meet
          all_goals exact ⟨rfl, B2⟩
        case rest =>
          obtain ⟨rfl, bq⟩ := hcut
          obtain ⟨v9w, hwn⟩ : ∃ x, x = wc := ⟨_, rfl⟩
          subst hwn
          replace b0 := below_step b0 bq
          replace A := row_keep bq A
          replace ZX1 := row_keep bq ZX1
          replace P := owned_next P bq
          replace X := owned_next X bq
          replace X1 := owned_next X1 bq
          replace G := owned_next G bq
          clear bq
          obtain ⟨Ac0, Ac1, Ac2, Ac3, Ac4, Ac5, Ac6⟩ := cells_7 A
          have Alt := (Array.getElem?_eq_some_iff.1 A).1
          obtain ⟨ZX1c0, ZX1c1, ZX1c2, ZX1c3, ZX1c4, ZX1c5, ZX1c6⟩ := cells_7 ZX1
          have ZX1lt := (Array.getElem?_eq_some_iff.1 ZX1).1
          go_wp2_with fail
          clear Ac0 Ac1 Ac2 Ac3 Ac4 Ac5 Ac6 Alt ZX1c0 ZX1c1 ZX1c2 ZX1c3 ZX1c4 ZX1c5 ZX1c6 ZX1lt
          refine (markMsgS_rep _ _ 1 x0 _ (by decide) (by decide) (by omega) X.1).mono ?_
          rintro e v10w ⟨rfl, -, ch⟩
          replace b0 := chg_b0 b0 ch Xlo
          replace A := row_chg A ch XA
          replace ZX1 := row_chg ZX1 ch XZX1
          replace P := owned_chg P ch (.inl PX)
          replace X1 := owned_chg X1 ch (.inr XX1)
          replace G := owned_chg G ch (.inr XG)
          clear ch X
          obtain ⟨Ac0, Ac1, Ac2, Ac3, Ac4, Ac5, Ac6⟩ := cells_7 A
          have Alt := (Array.getElem?_eq_some_iff.1 A).1
          obtain ⟨ZX1c0, ZX1c1, ZX1c2, ZX1c3, ZX1c4, ZX1c5, ZX1c6⟩ := cells_7 ZX1
          have ZX1lt := (Array.getElem?_eq_some_iff.1 ZX1).1
          go_wp2_with fail
          clear Ac0 Ac1 Ac2 Ac3 Ac4 Ac5 Ac6 Alt ZX1c0 ZX1c1 ZX1c2 ZX1c3 ZX1c4 ZX1c5 ZX1c6 ZX1lt
          refine (markMsg_rep _ f0 f1 f2 f3 f4 f6 _ (1 + (slcnt msgM x0 : Int)) d _ (by omega) (by omega) (by omega) (msg_intsd X1.1)).mono ?_
          rintro e v11w ⟨rfl, -, ch⟩
          replace b0 := chg_b0 b0 ch X1lo
          replace A := row_chg A ch X1A
          replace ZX1 := row_chg ZX1 ch X1ZX1
          replace P := owned_chg P ch (.inl PX1)
          replace G := owned_chg G ch (.inr X1G)
          clear ch X1
          have hk2 : ¬ ((1 : Int) + (slcnt msgM x0 : Int) + (slcnt intM d : Int) < 0) := by omega
          obtain ⟨Ac0, Ac1, Ac2, Ac3, Ac4, Ac5, Ac6⟩ := cells_7 A
          have Alt := (Array.getElem?_eq_some_iff.1 A).1
          obtain ⟨ZX1c0, ZX1c1, ZX1c2, ZX1c3, ZX1c4, ZX1c5, ZX1c6⟩ := cells_7 ZX1
          have ZX1lt := (Array.getElem?_eq_some_iff.1 ZX1).1
          go_wp2_with fail
          clear Ac0 Ac1 Ac2 Ac3 Ac4 Ac5 Ac6 Alt ZX1c0 ZX1c1 ZX1c2 ZX1c3 ZX1c4 ZX1c5 ZX1c6 ZX1lt
          refine (eqMsgS_rep av3 av1 c cv3 cv1 _ (owned_msgs G) (owned_msgs P) (by have : (slM msgM).bk c = msgsM.bk c := rfl; omega)).mono ?_
          rintro e v12w ⟨rfl, bq⟩
          replace b0 := below_step b0 bq
          replace A := row_keep bq A
          replace ZX1 := row_keep bq ZX1
          replace P := owned_next P bq
          replace G := owned_next G bq
          clear bq
          obtain ⟨Ac0, Ac1, Ac2, Ac3, Ac4, Ac5, Ac6⟩ := cells_7 A
          have Alt := (Array.getElem?_eq_some_iff.1 A).1
          obtain ⟨ZX1c0, ZX1c1, ZX1c2, ZX1c3, ZX1c4, ZX1c5, ZX1c6⟩ := cells_7 ZX1
          have ZX1lt := (Array.getElem?_eq_some_iff.1 ZX1).1
          go_wp2_with fail
          clear Ac0 Ac1 Ac2 Ac3 Ac4 Ac5 Ac6 Alt ZX1c0 ZX1c1 ZX1c2 ZX1c3 ZX1c4 ZX1c5 ZX1c6 ZX1lt
          refine (markMsgS_rep _ _ 1 c _ (by decide) (by decide) (by omega) G.1).mono ?_
          rintro e v13w ⟨rfl, gm, ch⟩
          replace b0 := chg_b0 b0 ch Glo
          replace A := row_chg A ch GA
          replace ZX1 := row_chg ZX1 ch GZX1
          replace P := owned_chg P ch (.inl PG)
          have GM := And.intro gm (Nat.le_trans G.2 ch.size)
          clear ch G gm
          obtain ⟨lo9, hlo9⟩ : ∃ z, z = v4w.heap.size := ⟨_, rfl⟩
          obtain ⟨hi9, hhi9⟩ : ∃ z, z = v5w.heap.size := ⟨_, rfl⟩
          replace GM : Owned msgsR lo9 hi9 v13w [.slice av3 c.length cv3] (slmark msgM 1 c) := by rw [hlo9, hhi9]; exact GM
          clear hlo9 hhi9
          obtain ⟨Ac0, Ac1, Ac2, Ac3, Ac4, Ac5, Ac6⟩ := cells_7 A
          have Alt := (Array.getElem?_eq_some_iff.1 A).1
          obtain ⟨ZX1c0, ZX1c1, ZX1c2, ZX1c3, ZX1c4, ZX1c5, ZX1c6⟩ := cells_7 ZX1
          have ZX1lt := (Array.getElem?_eq_some_iff.1 ZX1).1
          go_wp2_with fail
          clear Ac0 Ac1 Ac2 Ac3 Ac4 Ac5 Ac6 Alt ZX1c0 ZX1c1 ZX1c2 ZX1c3 ZX1c4 ZX1c5 ZX1c6 ZX1lt
          have S1 : SlRd msgR _ av3 (slmark msgM 1 c) := owned_msgs (lo := lo9) (hi := hi9) (cap := cv3) (by rw [HM1.out]; exact GM)
          refine (heldMsgS_rep av3 cv3 1 c _ (by decide) (by decide) (by omega) S1).mono ?_
          clear S1
          rintro e v14w ⟨rfl, hw⟩
          rw [hw]
          clear hw v14w
          obtain ⟨Ac0, Ac1, Ac2, Ac3, Ac4, Ac5, Ac6⟩ := cells_7 A
          have Alt := (Array.getElem?_eq_some_iff.1 A).1
          obtain ⟨ZX1c0, ZX1c1, ZX1c2, ZX1c3, ZX1c4, ZX1c5, ZX1c6⟩ := cells_7 ZX1
          have ZX1lt := (Array.getElem?_eq_some_iff.1 ZX1).1
          go_wp2_with fail
          clear Ac0 Ac1 Ac2 Ac3 Ac4 Ac5 Ac6 Alt ZX1c0 ZX1c1 ZX1c2 ZX1c3 ZX1c4 ZX1c5 ZX1c6 ZX1lt
          go_cut [15, 16] from 94 to 101 (fun p q wx => ∃ lo hi av cv, p = .slice av c.length cv ∧ q = .bool ok ∧ v13w.heap.size ≤ lo ∧ Owned msgsR lo hi wx [.slice av c.length cv] c ∧ Below v13w.heap.size v13w wx)
          case first =>
            have B1 : Below v13w.heap.size v13w v13w.drew := (Below.refl _ _).drew
            obtain ⟨Ac0, Ac1, Ac2, Ac3, Ac4, Ac5, Ac6⟩ := cells_7 A
            have HA : Hid _ := A
            have HB : Hid _ := b0
            clear b0 A ZX1 P GM
            go_region_with (first | (go_at_call 26; refine (CT.out _ (below_step HB.out B1)).mono ?_; rintro e wq ⟨v, rfl, mm⟩; obtain ⟨at1, ct1, rfl⟩ := slown_val mm.1; replace B1 : Below v13w.heap.size v13w wq := below_step B1 mm.2; have HT1 : Hid (SlRd msgR wq at1 x0) := msgs_rd mm.1; clear mm; clear Ac0 Ac1 Ac2 Ac3 Ac4 Ac5 Ac6; obtain ⟨Ac0, Ac1, Ac2, Ac3, Ac4, Ac5, Ac6⟩ := cells_7 (row_keep B1 HA.out)) | (go_at_call 29; refine (CW.out _ (below_step HB.out B1)).mono ?_; rintro e wr ⟨aw1, cw1, rfl, mm⟩; replace B1 : Below v13w.heap.size v13w wr := below_step B1 mm.2; have HT2 : Hid (SlRd msgR wr at1 x0) := slrd_next HT1.out mm.2; have HT3 : Hid (SlRd intR wr aw1 d) := owned_msgd (owned_made mm); clear mm; clear Ac0 Ac1 Ac2 Ac3 Ac4 Ac5 Ac6; obtain ⟨Ac0, Ac1, Ac2, Ac3, Ac4, Ac5, Ac6⟩ := cells_7 (row_keep B1 HA.out)) | (go_at_call 11; refine (CIM.out at1 ct1 aw1 cw1 wr HT2.out HT3.out).mono ?_; rintro e wf ⟨av, cv, rfl, mm⟩; have B2 : Below v13w.heap.size v13w wf := below_step B1 mm.2; have HP : Hid _ := mm; clear mm))
            all_goals go_wp2_with fail
            all_goals go_meet
            all_goals exact ⟨_, _, av, cv, rfl, rfl, B1.size, owned_made HP.out, B2⟩
          case rest =>
            obtain ⟨lo6, hi6, av6, cv6, rfl, rfl, hlo6, H, bq⟩ := hcut
            obtain ⟨v15w, hwn⟩ : ∃ x, x = wc := ⟨_, rfl⟩
            subst hwn
            have HA : w.heap.size < lo6 ∨ hi6 ≤ w.heap.size := .inl (Nat.lt_of_lt_of_le (Array.getElem?_eq_some_iff.1 A).1 hlo6)
            have HZX1 : v3w.heap.size < lo6 ∨ hi6 ≤ v3w.heap.size := .inl (Nat.lt_of_lt_of_le (Array.getElem?_eq_some_iff.1 ZX1).1 hlo6)
            have PH : hi1 ≤ lo6 := Nat.le_trans P.2 hlo6
            have GMH : hi9 ≤ lo6 := Nat.le_trans GM.2 hlo6
            have Hlo : w.heap.size ≤ lo6 := Nat.le_trans b0.size hlo6
            replace b0 := below_step b0 bq
            replace A := row_keep bq A
            replace ZX1 := row_keep bq ZX1
            replace P := owned_next P bq
            replace GM := owned_next GM bq
            clear bq
            obtain ⟨Ac0, Ac1, Ac2, Ac3, Ac4, Ac5, Ac6⟩ := cells_7 A
            have Alt := (Array.getElem?_eq_some_iff.1 A).1
            obtain ⟨ZX1c0, ZX1c1, ZX1c2, ZX1c3, ZX1c4, ZX1c5, ZX1c6⟩ := cells_7 ZX1
            have ZX1lt := (Array.getElem?_eq_some_iff.1 ZX1).1
            go_wp2_with fail
            clear Ac0 Ac1 Ac2 Ac3 Ac4 Ac5 Ac6 Alt ZX1c0 ZX1c1 ZX1c2 ZX1c3 ZX1c4 ZX1c5 ZX1c6 ZX1lt
            refine (eqMsgS_rep av6 av1 c cv6 cv1 _ (owned_msgs H) (owned_msgs P) (by have : (slM msgM).bk c = msgsM.bk c := rfl; omega)).mono ?_
            rintro e v16w ⟨rfl, bq⟩
            replace b0 := below_step b0 bq
            replace A := row_keep bq A
            replace ZX1 := row_keep bq ZX1
            replace P := owned_next P bq
            replace GM := owned_next GM bq
            replace H := owned_next H bq
            clear bq
            obtain ⟨Ac0, Ac1, Ac2, Ac3, Ac4, Ac5, Ac6⟩ := cells_7 A
            have Alt := (Array.getElem?_eq_some_iff.1 A).1
            obtain ⟨ZX1c0, ZX1c1, ZX1c2, ZX1c3, ZX1c4, ZX1c5, ZX1c6⟩ := cells_7 ZX1
            have ZX1lt := (Array.getElem?_eq_some_iff.1 ZX1).1
            go_wp2_with fail
            clear Ac0 Ac1 Ac2 Ac3 Ac4 Ac5 Ac6 Alt ZX1c0 ZX1c1 ZX1c2 ZX1c3 ZX1c4 ZX1c5 ZX1c6 ZX1lt
            have S1 : SlRd msgR _ av3 (slmark msgM 1 c) := owned_msgs (lo := lo9) (hi := hi9) (cap := cv3) (by rw [HM1.out]; exact GM)
            refine (heldMsgS_rep av3 cv3 1 c _ (by decide) (by decide) (by omega) S1).mono ?_
            clear S1
            rintro e v17w ⟨rfl, hw⟩
            rw [hw]
            clear hw v17w
            clear P GM H A ZX1
            go_wp2
            go_ret
            exact ⟨rfl, b0⟩
    · have HS2 : Hid (szI (msgM.bk (f0, f1, f2, f3, f4, d, f6)) (1048576 - (msgsM.bk x0 : Int)) = -1) := szI_no hg
      rw [HS2.out]
      go_wp2
      go_ret
      exact ⟨rfl, b0⟩
  · have HS : Hid (szI (msgsM.bk x0) 1048576 = -1) := szI_no hf
    rw [HS.out]
    go_wp2
    go_ret
    exact ⟨rfl, b0⟩

set_option maxRecDepth 100000 in
theorem lifted (os : Os) (started : os.Started) (H : Type) (enc : TypeId × Value → H) :
    ReturnsInHanded {} Try.checked os 6 .any (Rows.fnExactSentSpec.pre6 enc Try.prog Try.f6 Rows.fnExactSentRow.domain false) (Rows.fnExactSentSpec.post enc Try.prog Try.f6 false true false false) := by
  refine returnsInHanded_of_change (C := Try.checked) own started (by kernel_rfl) Try.func6
    (ChangeSpec.witness6 (enc := enc) (C := Try.checked) false ⟨#[], #[.slice none 0 0, .agg #[.int .i64 0, .int .i64 0, .int .i64 0, .int .i64 0, .int .i64 0, .slice none 0 0, .int .i64 0]], []⟩ 8 (by kernel_rfl) (by kernel_rfl) (by kernel_rfl) (by kernel_rfl)) ?_
  intro W base args ds gs before hval0 hW hcnd _
  have hval : ∀ (j : Nat) t v, Try.f6.params[j]? = some t → args[j]? = some v → Value.okWide Try.prog W .any base t v := hval0
  have hW' := hW
  obtain ⟨p, q, hA0, hV, rfl, hfz, hnd⟩ := hW
  have hA : DataW.TrodAll enc Try.prog W 0 (fun _ => true) true Try.f6.params.toList args.toList ds p := hA0
  rw [Try.params6] at hA hval
  obtain ⟨v0, vs0, d0, ds0, p0, q0, hargs, rfl, rfl, h0, r0⟩ := trodAll_cons hA
  obtain ⟨v1, vs1, d1, ds1, p1, q1, rfl, rfl, rfl, h1, r1⟩ := trodAll_cons r0
  obtain ⟨rfl, rfl, rfl⟩ := trodAll_nil r1
  obtain rfl : args = #[v0, v1] := by cases args; simp_all
  obtain ⟨rfl, rfl⟩ := trodVars_none hV
  have k0 := h0
  have lt0 : ∀ x ∈ p0, x.block < W.heap.size := by obtain ⟨m, hm⟩ := k0; exact DataW.trod_lt m _ _ _ hm
  have k1 := h1
  have lt1 : ∀ x ∈ p1, x.block < W.heap.size := by obtain ⟨m, hm⟩ := k1; exact DataW.trod_lt m _ _ _ hm
  obtain ⟨x0, a0, cap0, hc0, l0, m0, w0⟩ := open_rep opens_msgs h0
  obtain ⟨aa0, len0, cc0, rfl⟩ := okWide_slice Try.underlying42 (hval 0 42 v0 rfl rfl)
  simp only [Value.cells, List.cons.injEq, Value.slice.injEq, and_true] at hc0
  obtain ⟨rfl, rfl, rfl⟩ : a0 = aa0 ∧ x0.length = len0 ∧ cap0 = cc0 := ⟨hc0.1.symm, hc0.2.1.symm, hc0.2.2.symm⟩
  obtain ⟨cs1, x1, rfl, w1⟩ := open_struct Try.underlying46 opens_msg (hval 1 46 v1 rfl rfl) h1
  clear hA0 hval0
  refine (walk a0 cap0 x0 cs1 x1 W w0 (Nat.le_trans l0 m0) w1).mono fun e W' ⟨he, bel⟩ => ?_
  subst he
  exact ⟨_, rfl, _, _, _, [], _, [], hW', trodAll_mk1 (shut_bool Try.underlying4 _), (trodAll_cons_mk (Below.trod laidOut (by kernel_rfl) (of_decide_eq_true (by kernel_rfl)) k0 bel lt0) (trodAll_cons_mk (Below.trod laidOut (by kernel_rfl) (of_decide_eq_true (by kernel_rfl)) k1 bel lt1) trodAll_mk0)), rfl, bel.frame _, fun h => by cases h⟩

theorem over : Rows.fnExactSentRow.holds Try.pinned (OpenSpec.ofChange Rows.fnExactSentSpec) :=
  OpenClaim.holds_of_wide 6 Try.f6 rfl rfl rfl rfl rfl rfl rfl ⟨rfl, rfl, rfl, rfl, rfl⟩ rfl rfl rfl rfl rfl (by kernel_rfl) Try.func6 (by kernel_rfl)
    (of_decide_eq_true (by kernel_rfl)) (by unfold Func.isWrapper; first | (rw [if_pos (by decide +kernel)]; kernel_rfl) | (rw [if_neg (by decide +kernel)]; exact ⟨rfl, rfl⟩))
    (fun os started H enc _ => lifted os started H enc)

theorem proved : Rows.FnExactSentSaid :=
  over
#print axioms proved
end Go.Proofs.Ytbbplcpfkmmcdaa.fnExactSent
