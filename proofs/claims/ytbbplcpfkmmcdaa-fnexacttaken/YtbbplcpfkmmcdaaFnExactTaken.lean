/- At every net and every number, impl.Taken answers as spec.Taken does, field by field, writes into no argument, keeps nothing of one, and its answer owns its memory, behind another call too: the law FnExactTaken returns true and changes nothing that was there. No condition. -/
import Derived.Test.YtbbplcpfkmmcdaaRows
import Derived.Test.YtbbplcpfkmmcdaaOwnedG
import Derived.Test.YtbbplcpfkmmcdaaImplTaken
import Derived.WalkKit
import Derived.ProofKit
import Derived.OpenShut
import Derived.ShutString
import Derived.ChangeOld
import Derived.Below
import Derived.Carry
import Derived.Lib.SmallJoins
namespace Go.Proofs.Ytbbplcpfkmmcdaa.fnExactTaken
open Go.ChangeShapes Go.WideShapes Go.ChangeAt Go.RowKit Go.Joins
open Go.ChangeMaps (open_string shut_string)
set_option linter.unusedVariables false

theorem own : ownKnob Try.prog.godebug = none := by kernel_rfl
theorem laidOut : laidOutB Try.prog = true := by kernel_rfl

theorem sub_sum {a b : List Nat} (h : a.Sublist b) : a.sum ≤ b.sum := by
  induction h with
  | slnil => exact Nat.le_refl _
  | cons x _ ih => rw [List.sum_cons]; omega
  | cons_cons x _ ih => rw [List.sum_cons, List.sum_cons]; omega
theorem bk_msgs (l : List MsgD) : msgsM.bk l = l.length + sumbk msgM l := rfl
theorem taken_small (xs : List MsgD) (k : Int) : msgsM.bk (takenI xs k).1 ≤ msgsM.bk xs ∧ intsM.bk (takenI xs k).2.1.2.2.2.2.2.1 ≤ msgsM.bk xs := by
  have h0 : intsM.bk ([] : List Int) = 0 := rfl
  unfold takenI
  split
  · split
    · refine ⟨?_, ?_⟩
      · show msgsM.bk (xs.eraseIdx k.toNat) ≤ _
        rw [bk_msgs, bk_msgs]
        have hs := List.eraseIdx_sublist xs k.toNat
        have h1 := hs.length_le
        have h2 : sumbk msgM (xs.eraseIdx k.toNat) ≤ sumbk msgM xs := by
          unfold sumbk
          exact sub_sum (hs.map _)
        omega
      · show intsM.bk (xs.getD k.toNat zeroM).2.2.2.2.2.1 ≤ _
        rw [bk_msgs]
        cases hx : xs[k.toNat]? with
        | none => simp [List.getD_eq_getElem?_getD, hx, zeroM, h0]
        | some u =>
          have h1 := sumbk_get (M := msgM) hx
          have h2 := bk_msg u
          simp only [List.getD_eq_getElem?_getD, hx, Option.getD_some]
          omega
    · exact ⟨Nat.le_refl _, Nat.zero_le _⟩
  · exact ⟨Nat.zero_le _, Nat.zero_le _⟩
theorem prod_split1 {α β : Type} {e : TypeId} {R : Rep α} {Q : Rep β} {w : World} {S : Foot} {v : Value} {cs : List Value} {a : List α} {b : β} (h : (prodR (slR e R) Q).own w S (v :: cs) (a, b)) : ∃ S1 S2, (slR e R).own w S1 [v] a ∧ Q.own w S2 cs b ∧ Sub S1 S ∧ Sub S2 S ∧ Dis S1 S2 := by
  obtain ⟨c1, c2, S1, S2, he, h1, h2, u1, u2, u3⟩ := h
  have hl := (slR e R).rd_len ((slR e R).own_rd h1)
  obtain ⟨v1, rfl⟩ : ∃ v, c1 = [v] := List.length_eq_one_iff.1 hl
  simp only [List.cons_append, List.nil_append, List.cons.injEq] at he
  obtain ⟨rfl, rfl⟩ := he
  exact ⟨S1, S2, h1, h2, u1, u2, u3⟩
theorem owned_p1 {lo hi : Nat} {w : World} {a : Option Addr} {cap : Nat} {cs : List Value} {xs : List MsgD} {u : MsgD} (h : Owned (prodR msgsR msgR) lo hi w (.slice a xs.length cap :: cs) (xs, u)) : SlRd msgR w a xs := by
  obtain ⟨S1, S2, h1, _⟩ := prod_split1 h.1
  exact msgs_rd h1
theorem owned_p2 {lo hi : Nat} {w : World} {v : Value} {f0 f1 f2 f3 f4 f6 g0 g1 g2 g3 g4 g6 : Int} {a : Option Addr} {cap : Nat} {d : List Int} {xs : List MsgD} (h : Owned (prodR msgsR msgR) lo hi w [v, .int .i64 f0, .int .i64 f1, .int .i64 f2, .int .i64 f3, .int .i64 f4, .slice a d.length cap, .int .i64 f6] (xs, (g0, g1, g2, g3, g4, d, g6))) : SlRd intR w a d := by
  obtain ⟨S1, S2, _, h2, _⟩ := prod_split1 h.1
  exact ints_rd7 (msg_intsd h2)
theorem owned_q1 {lo hi : Nat} {w : World} {p : Option Addr} {ca : Nat} {cs : List Value} {a : List MsgD} {b : List Int} (h : Owned (prodR msgsR intsR) lo hi w (.slice p a.length ca :: cs) (a, b)) : SlRd msgR w p a := by
  obtain ⟨S1, S2, h1, _⟩ := prod_split1 h.1
  exact msgs_rd h1
theorem owned_q2 {lo hi : Nat} {w : World} {v : Value} {p : Option Addr} {cb : Nat} {a : List MsgD} {b : List Int} (h : Owned (prodR msgsR intsR) lo hi w [v, .slice p b.length cb] (a, b)) : SlRd intR w p b := by
  obtain ⟨S1, S2, _, h2, _⟩ := prod_split1 h.1
  exact ints_rd7 h2
set_option maxHeartbeats 8000000 in
set_option maxRecDepth 100000 in
theorem walk (a0 : Option Addr) (cap0 : Nat) (x0 : RepOf (msgsR)) (a1 : Int) (w1 : (Lit.int .i64 a1).wf = true) (w : World) (w0 : SlRd msgR w a0 x0) (l0 : x0.length ≤ maxLen) :
    Calls Try.prog 8 #[.slice a0 x0.length cap0, .int .i64 a1] w fun e w' => e = .returned (.bool true) ∧ Below w.heap.size w w' := by
  have HR : Hid (∀ W, Below w.heap.size w W → SlRd msgR W a0 x0) := fun W hb => slrd_keep w0 fun k hk => hb.block k hk
  have b0 := Below.refl w.heap.size w
  clear w0
  go_enter Try.func8, Try.ntmps8
  go_wp2_with fail
  refine (szMsgS_rep a0 x0 cap0 1048576 _ (HR.out _ b0) (by decide) (by decide) l0).mono ?_
  rintro e w2 ⟨rfl, bb1⟩
  replace b0 := below_step b0 bb1
  clear bb1
  by_cases hf : ((msgsM.bk x0 : Nat) : Int) ≤ 1048576
  · have HS : Hid (szI (msgsM.bk x0) 1048576 = 1048576 - (msgsM.bk x0 : Int)) := szI_yes hf
    have hf' : ¬ (1048576 - ((msgsM.bk x0 : Nat) : Int) < 0) := by omega
    have hbk : msgsM.bk x0 ≤ 1048576 := by omega
    have hcx := cnt_small7 (xs := x0) (by omega)
    rw [HS.out]
    obtain ⟨hs1, hs2⟩ := taken_small x0 a1
    generalize hDI : takenI x0 a1 = DI at hs1 hs2
    have HDI : Hid (takenI x0 a1 = DI) := hDI
    clear hDI
    obtain ⟨c, ⟨f0, f1, f2, f3, f4, d, f6⟩, ok⟩ := DI
    simp only at hs1 hs2
    have CSP : Hid (∀ a cap W, SlRd msgR W a x0 → Calls Try.prog 18 #[.slice a x0.length cap, .int .i64 a1] W fun e w' => ∃ av cv bv dv, e = .returned (.tuple #[.slice av c.length cv, .agg #[.int .i64 f0, .int .i64 f1, .int .i64 f2, .int .i64 f3, .int .i64 f4, .slice bv d.length dv, .int .i64 f6], .bool ok]) ∧ MadeR (prodR msgsR msgR) W w' [.slice av c.length cv, .int .i64 f0, .int .i64 f1, .int .i64 f2, .int .i64 f3, .int .i64 f4, .slice bv d.length dv, .int .i64 f6] ((c, (f0, f1, f2, f3, f4, d, f6)) : List MsgD × MsgD)) := fun a cap W h1 => by have := specTaken_any a x0 cap a1 W h1 l0; rwa [HDI.out] at this
    have CIM : Hid (∀ a cap W, SlRd msgR W a x0 → Calls Try.prog 13 #[.slice a x0.length cap, .int .i64 a1] W fun e w' => ∃ av cv bv dv, e = .returned (.tuple #[.slice av c.length cv, .agg #[.int .i64 f0, .int .i64 f1, .int .i64 f2, .int .i64 f3, .int .i64 f4, .slice bv d.length dv, .int .i64 f6], .bool ok]) ∧ MadeR (prodR msgsR msgR) W w' [.slice av c.length cv, .int .i64 f0, .int .i64 f1, .int .i64 f2, .int .i64 f3, .int .i64 f4, .slice bv d.length dv, .int .i64 f6] ((c, (f0, f1, f2, f3, f4, d, f6)) : List MsgD × MsgD)) := fun a cap W h1 => by have := implTaken_any a x0 cap a1 W h1 l0; rwa [HDI.out] at this
    clear HDI
    have hwl : intsM.bk d = d.length := bk_ints7 d
    have hdc : slcnt intM d ≤ 1048576 := by rw [slcnt_ints]; omega
    have hcb : msgsM.bk c ≤ 2097152 := by omega
    have hc1 := cnt_small7 (xs := c) hcb
    have hq1 : ¬ ((1 : Int) + (slcnt msgM c : Int) < 0) := by omega
    have hq2 : ¬ ((1 : Int) + (slcnt msgM c : Int) + (slcnt intM d : Int) < 0) := by omega
    have HM1 : Hid ((slmark msgM 1 c).length = c.length) := slmark_len _ _ _
    have HM2 : Hid ((slmark intM (1 + (slcnt msgM c : Int)) d).length = d.length) := slmark_len _ _ _
    have CT : Hid (∀ W, Below w.heap.size w W → Calls Try.prog 26 #[.slice a0 x0.length cap0] W fun e w' => ∃ v, e = .returned v ∧ MadeR msgsR W w' [v] x0) := fun W hb => toMsgS_rep a0 x0 cap0 _ (HR.out _ hb) hbk
    go_wp2_with fail
    refine (CT.out _ b0).mono ?_
    rintro e v1w ⟨v, rfl, mm⟩
    obtain ⟨at1, ct1, rfl⟩ := slown_val mm.1
    have S1 : SlRd msgR _ at1 x0 := msgs_rd mm.1
    have mb := mm.2
    replace b0 := below_step b0 mb
    clear mb mm
    go_wp2_with fail
    refine (CSP.out _ _ _ S1).mono ?_
    rintro e v2w ⟨av1, cv1, bv1, dv1, rfl, mm⟩
    have Plo : w.heap.size ≤ v1w.heap.size := b0.size
    have P := owned_made (R := (prodR msgsR msgR)) mm
    have mbP := mm.2
    replace b0 := below_step b0 mbP
    clear mbP mm
    go_wp2_with fail
    have ZP := heap_at v2w (.cells #[.int .i64 f0, .int .i64 f1, .int .i64 f2, .int .i64 f3, .int .i64 f4, .slice bv1 d.length dv1, .int .i64 f6] 27)
    have bzZP := box_below v2w (.cells #[.int .i64 f0, .int .i64 f1, .int .i64 f2, .int .i64 f3, .int .i64 f4, .slice bv1 d.length dv1, .int .i64 f6] 27)
    have PZP : v2w.heap.size < v1w.heap.size ∨ v2w.heap.size ≤ v2w.heap.size := .inr P.2
    replace b0 := below_step b0 bzZP
    replace P := owned_next P bzZP
    clear bzZP
    generalize v2w.alloc (.cells #[.int .i64 f0, .int .i64 f1, .int .i64 f2, .int .i64 f3, .int .i64 f4, .slice bv1 d.length dv1, .int .i64 f6] 27) = v3w at b0 ZP P ⊢
    clear S1
    refine (CT.out _ b0).mono ?_
    rintro e v4w ⟨v, rfl, mm⟩
    obtain ⟨at2, ct2, rfl⟩ := slown_val mm.1
    have XZP : v2w.heap.size < v3w.heap.size ∨ v4w.heap.size ≤ v2w.heap.size := .inl (Array.getElem?_eq_some_iff.1 ZP).1
    have PX : v2w.heap.size ≤ v3w.heap.size := P.2
    have Xlo : w.heap.size ≤ v3w.heap.size := b0.size
    have X := owned_made (R := msgsR) mm
    have mbX := mm.2
    replace b0 := below_step b0 mbX
    replace ZP := row_keep mbX ZP
    replace P := owned_next P mbX
    clear mbX mm
    obtain ⟨ZPc0, ZPc1, ZPc2, ZPc3, ZPc4, ZPc5, ZPc6⟩ := cells_7 ZP
    have ZPlt := (Array.getElem?_eq_some_iff.1 ZP).1
    go_wp2_with fail
    clear ZPc0 ZPc1 ZPc2 ZPc3 ZPc4 ZPc5 ZPc6 ZPlt
    refine (CIM.out _ _ _ (owned_msgs X)).mono ?_
    rintro e v5w ⟨av3, cv3, bv3, dv3, rfl, mm⟩
    have GZP : v2w.heap.size < v4w.heap.size ∨ v5w.heap.size ≤ v2w.heap.size := .inl (Array.getElem?_eq_some_iff.1 ZP).1
    have PG : v2w.heap.size ≤ v4w.heap.size := P.2
    have XG : v4w.heap.size ≤ v4w.heap.size := X.2
    have Glo : w.heap.size ≤ v4w.heap.size := b0.size
    have G := owned_made (R := (prodR msgsR msgR)) mm
    have mbG := mm.2
    replace b0 := below_step b0 mbG
    replace ZP := row_keep mbG ZP
    replace P := owned_next P mbG
    replace X := owned_next X mbG
    clear mbG mm
    obtain ⟨ZPc0, ZPc1, ZPc2, ZPc3, ZPc4, ZPc5, ZPc6⟩ := cells_7 ZP
    have ZPlt := (Array.getElem?_eq_some_iff.1 ZP).1
    go_wp2_with fail
    clear ZPc0 ZPc1 ZPc2 ZPc3 ZPc4 ZPc5 ZPc6 ZPlt
    have ZG := heap_at v5w (.cells #[.int .i64 f0, .int .i64 f1, .int .i64 f2, .int .i64 f3, .int .i64 f4, .slice bv3 d.length dv3, .int .i64 f6] 27)
    have bzZG := box_below v5w (.cells #[.int .i64 f0, .int .i64 f1, .int .i64 f2, .int .i64 f3, .int .i64 f4, .slice bv3 d.length dv3, .int .i64 f6] 27)
    have PZG : v5w.heap.size < v1w.heap.size ∨ v2w.heap.size ≤ v5w.heap.size := .inr P.2
    have XZG : v5w.heap.size < v3w.heap.size ∨ v4w.heap.size ≤ v5w.heap.size := .inr X.2
    have GZG : v5w.heap.size < v4w.heap.size ∨ v5w.heap.size ≤ v5w.heap.size := .inr G.2
    replace b0 := below_step b0 bzZG
    replace ZP := row_keep bzZG ZP
    replace P := owned_next P bzZG
    replace X := owned_next X bzZG
    replace G := owned_next G bzZG
    clear bzZG
    generalize v5w.alloc (.cells #[.int .i64 f0, .int .i64 f1, .int .i64 f2, .int .i64 f3, .int .i64 f4, .slice bv3 d.length dv3, .int .i64 f6] 27) = v6w at b0 ZP ZG P X G ⊢
    refine (eqMsgS_rep av3 av1 c cv3 cv1 _ (owned_p1 G) (owned_p1 P) (by have : (slM msgM).bk c = msgsM.bk c := rfl; omega)).mono ?_
    rintro e v7w ⟨rfl, bq⟩
    replace b0 := below_step b0 bq
    replace ZP := row_keep bq ZP
    replace ZG := row_keep bq ZG
    replace P := owned_next P bq
    replace X := owned_next X bq
    replace G := owned_next G bq
    clear bq
    obtain ⟨ZPc0, ZPc1, ZPc2, ZPc3, ZPc4, ZPc5, ZPc6⟩ := cells_7 ZP
    have ZPlt := (Array.getElem?_eq_some_iff.1 ZP).1
    obtain ⟨ZGc0, ZGc1, ZGc2, ZGc3, ZGc4, ZGc5, ZGc6⟩ := cells_7 ZG
    have ZGlt := (Array.getElem?_eq_some_iff.1 ZG).1
    go_wp2_with fail
    clear ZPc0 ZPc1 ZPc2 ZPc3 ZPc4 ZPc5 ZPc6 ZPlt ZGc0 ZGc1 ZGc2 ZGc3 ZGc4 ZGc5 ZGc6 ZGlt
    refine (eqMsg_rep f0 f1 f2 f3 f4 f6 d bv3 bv1 dv3 dv1 _ (owned_p2 G) (owned_p2 P) (by omega)).mono ?_
    rintro e v8w ⟨rfl, bq⟩
    replace b0 := below_step b0 bq
    replace ZP := row_keep bq ZP
    replace ZG := row_keep bq ZG
    replace P := owned_next P bq
    replace X := owned_next X bq
    replace G := owned_next G bq
    clear bq
    obtain ⟨ZPc0, ZPc1, ZPc2, ZPc3, ZPc4, ZPc5, ZPc6⟩ := cells_7 ZP
    have ZPlt := (Array.getElem?_eq_some_iff.1 ZP).1
    obtain ⟨ZGc0, ZGc1, ZGc2, ZGc3, ZGc4, ZGc5, ZGc6⟩ := cells_7 ZG
    have ZGlt := (Array.getElem?_eq_some_iff.1 ZG).1
    go_wp2_with fail
    clear ZPc0 ZPc1 ZPc2 ZPc3 ZPc4 ZPc5 ZPc6 ZPlt ZGc0 ZGc1 ZGc2 ZGc3 ZGc4 ZGc5 ZGc6 ZGlt
    refine (CT.out _ b0).mono ?_
    rintro e v9w ⟨v, rfl, mm⟩
    obtain ⟨at4, ct4, rfl⟩ := slown_val mm.1
    have S4 : SlRd msgR _ at4 x0 := msgs_rd mm.1
    have mb := mm.2
    replace b0 := below_step b0 mb
    replace ZP := row_keep mb ZP
    replace ZG := row_keep mb ZG
    replace P := owned_next P mb
    replace X := owned_next X mb
    replace G := owned_next G mb
    clear mb mm
    obtain ⟨ZPc0, ZPc1, ZPc2, ZPc3, ZPc4, ZPc5, ZPc6⟩ := cells_7 ZP
    have ZPlt := (Array.getElem?_eq_some_iff.1 ZP).1
    obtain ⟨ZGc0, ZGc1, ZGc2, ZGc3, ZGc4, ZGc5, ZGc6⟩ := cells_7 ZG
    have ZGlt := (Array.getElem?_eq_some_iff.1 ZG).1
    go_wp2_with fail
    clear ZPc0 ZPc1 ZPc2 ZPc3 ZPc4 ZPc5 ZPc6 ZPlt ZGc0 ZGc1 ZGc2 ZGc3 ZGc4 ZGc5 ZGc6 ZGlt
    refine (eqMsgS_rep at2 at4 x0 ct2 ct4 _ (owned_msgs X) S4 (by have : (slM msgM).bk x0 = msgsM.bk x0 := rfl; omega)).mono ?_
    clear S4
    rintro e v10w ⟨rfl, bq⟩
    replace b0 := below_step b0 bq
    replace ZP := row_keep bq ZP
    replace ZG := row_keep bq ZG
    replace P := owned_next P bq
    replace X := owned_next X bq
    replace G := owned_next G bq
    clear bq
    obtain ⟨ZPc0, ZPc1, ZPc2, ZPc3, ZPc4, ZPc5, ZPc6⟩ := cells_7 ZP
    have ZPlt := (Array.getElem?_eq_some_iff.1 ZP).1
    obtain ⟨ZGc0, ZGc1, ZGc2, ZGc3, ZGc4, ZGc5, ZGc6⟩ := cells_7 ZG
    have ZGlt := (Array.getElem?_eq_some_iff.1 ZG).1
    go_wp2_with fail
    clear ZPc0 ZPc1 ZPc2 ZPc3 ZPc4 ZPc5 ZPc6 ZPlt ZGc0 ZGc1 ZGc2 ZGc3 ZGc4 ZGc5 ZGc6 ZGlt
    refine (markMsgS_rep _ _ 1 x0 _ (by decide) (by decide) (by omega) X.1).mono ?_
    rintro e v11w ⟨rfl, -, ch⟩
    replace b0 := chg_b0 b0 ch Xlo
    replace ZP := row_chg ZP ch XZP
    replace ZG := row_chg ZG ch XZG
    replace P := owned_chg P ch (.inl PX)
    replace G := owned_chg G ch (.inr XG)
    clear ch X
    have hk2 : ¬ ((1 : Int) + (slcnt msgM x0 : Int) < 0) := by omega
    obtain ⟨ZPc0, ZPc1, ZPc2, ZPc3, ZPc4, ZPc5, ZPc6⟩ := cells_7 ZP
    have ZPlt := (Array.getElem?_eq_some_iff.1 ZP).1
    obtain ⟨ZGc0, ZGc1, ZGc2, ZGc3, ZGc4, ZGc5, ZGc6⟩ := cells_7 ZG
    have ZGlt := (Array.getElem?_eq_some_iff.1 ZG).1
    go_wp2_with fail
    clear ZPc0 ZPc1 ZPc2 ZPc3 ZPc4 ZPc5 ZPc6 ZPlt ZGc0 ZGc1 ZGc2 ZGc3 ZGc4 ZGc5 ZGc6 ZGlt
    refine (eqMsgS_rep av3 av1 c cv3 cv1 _ (owned_p1 G) (owned_p1 P) (by have : (slM msgM).bk c = msgsM.bk c := rfl; omega)).mono ?_
    rintro e v12w ⟨rfl, bq⟩
    replace b0 := below_step b0 bq
    replace ZP := row_keep bq ZP
    replace ZG := row_keep bq ZG
    replace P := owned_next P bq
    replace G := owned_next G bq
    clear bq
    obtain ⟨ZPc0, ZPc1, ZPc2, ZPc3, ZPc4, ZPc5, ZPc6⟩ := cells_7 ZP
    have ZPlt := (Array.getElem?_eq_some_iff.1 ZP).1
    obtain ⟨ZGc0, ZGc1, ZGc2, ZGc3, ZGc4, ZGc5, ZGc6⟩ := cells_7 ZG
    have ZGlt := (Array.getElem?_eq_some_iff.1 ZG).1
    go_wp2_with fail
    clear ZPc0 ZPc1 ZPc2 ZPc3 ZPc4 ZPc5 ZPc6 ZPlt ZGc0 ZGc1 ZGc2 ZGc3 ZGc4 ZGc5 ZGc6 ZGlt
    refine (eqMsg_rep f0 f1 f2 f3 f4 f6 d bv3 bv1 dv3 dv1 _ (owned_p2 G) (owned_p2 P) (by omega)).mono ?_
    rintro e v13w ⟨rfl, bq⟩
    replace b0 := below_step b0 bq
    replace ZP := row_keep bq ZP
    replace ZG := row_keep bq ZG
    replace P := owned_next P bq
    replace G := owned_next G bq
    clear bq
    obtain ⟨ZPc0, ZPc1, ZPc2, ZPc3, ZPc4, ZPc5, ZPc6⟩ := cells_7 ZP
    have ZPlt := (Array.getElem?_eq_some_iff.1 ZP).1
    obtain ⟨ZGc0, ZGc1, ZGc2, ZGc3, ZGc4, ZGc5, ZGc6⟩ := cells_7 ZG
    have ZGlt := (Array.getElem?_eq_some_iff.1 ZG).1
    go_wp2_with fail
    clear ZPc0 ZPc1 ZPc2 ZPc3 ZPc4 ZPc5 ZPc6 ZPlt ZGc0 ZGc1 ZGc2 ZGc3 ZGc4 ZGc5 ZGc6 ZGlt
    obtain ⟨S1, S2, o1, o2, u1, u2, u3⟩ := prod_split1 G.1
    have hGs := G.2
    refine (markMsgS_rep S1 _ 1 c _ (by decide) (by decide) (by omega) o1).mono ?_
    rintro e v14w ⟨rfl, om, ch⟩
    replace o2 := own_chg o2 ch u3.symm
    have hz := ch.size
    replace ch := ch.mono u1
    replace b0 := chg_b0 b0 ch Glo
    replace ZP := row_chg ZP ch GZP
    replace ZG := row_chg ZG ch GZG
    replace P := owned_chg P ch (.inl PG)
    clear ch G
    obtain ⟨ZPc0, ZPc1, ZPc2, ZPc3, ZPc4, ZPc5, ZPc6⟩ := cells_7 ZP
    have ZPlt := (Array.getElem?_eq_some_iff.1 ZP).1
    obtain ⟨ZGc0, ZGc1, ZGc2, ZGc3, ZGc4, ZGc5, ZGc6⟩ := cells_7 ZG
    have ZGlt := (Array.getElem?_eq_some_iff.1 ZG).1
    go_wp2_with fail
    clear ZPc0 ZPc1 ZPc2 ZPc3 ZPc4 ZPc5 ZPc6 ZPlt ZGc0 ZGc1 ZGc2 ZGc3 ZGc4 ZGc5 ZGc6 ZGlt
    refine (markMsg_rep S2 f0 f1 f2 f3 f4 f6 _ (1 + (slcnt msgM c : Int)) d _ (by omega) (by omega) (by omega) (msg_intsd o2)).mono ?_
    rintro e v15w ⟨rfl, om2, ch⟩
    replace om := own_chg om ch u3
    have hz2 := ch.size
    replace ch := ch.mono u2
    replace b0 := chg_b0 b0 ch Glo
    replace ZP := row_chg ZP ch GZP
    replace ZG := row_chg ZG ch GZG
    replace P := owned_chg P ch (.inl PG)
    have GM : Owned (prodR msgsR intsR) (v4w.heap.size) (v5w.heap.size) v15w [.slice av3 c.length cv3, .slice bv3 d.length dv3] (slmark msgM 1 c, slmark intM (1 + (slcnt msgM c : Int)) d) := ⟨⟨[_], [_], S1, S2, rfl, om, om2, u1, u2, u3⟩, by omega⟩
    clear om om2 o2 u1 u2 u3 ch hz hz2 hGs o1
    obtain ⟨ZPc0, ZPc1, ZPc2, ZPc3, ZPc4, ZPc5, ZPc6⟩ := cells_7 ZP
    have ZPlt := (Array.getElem?_eq_some_iff.1 ZP).1
    obtain ⟨ZGc0, ZGc1, ZGc2, ZGc3, ZGc4, ZGc5, ZGc6⟩ := cells_7 ZG
    have ZGlt := (Array.getElem?_eq_some_iff.1 ZG).1
    go_wp2_with fail
    clear ZPc0 ZPc1 ZPc2 ZPc3 ZPc4 ZPc5 ZPc6 ZPlt ZGc0 ZGc1 ZGc2 ZGc3 ZGc4 ZGc5 ZGc6 ZGlt
    have S1 : SlRd msgR _ av3 (slmark msgM 1 c) := owned_q1 (a := slmark msgM 1 c) (ca := cv3) (by rw [HM1.out]; exact GM)
    refine (heldMsgS_rep av3 cv3 1 c _ (by decide) (by decide) (by omega) S1).mono ?_
    clear S1
    rintro e v16w ⟨rfl, hw⟩
    rw [hw]
    clear hw v16w
    obtain ⟨ZPc0, ZPc1, ZPc2, ZPc3, ZPc4, ZPc5, ZPc6⟩ := cells_7 ZP
    have ZPlt := (Array.getElem?_eq_some_iff.1 ZP).1
    obtain ⟨ZGc0, ZGc1, ZGc2, ZGc3, ZGc4, ZGc5, ZGc6⟩ := cells_7 ZG
    have ZGlt := (Array.getElem?_eq_some_iff.1 ZG).1
    go_wp2_with fail
    clear ZPc0 ZPc1 ZPc2 ZPc3 ZPc4 ZPc5 ZPc6 ZPlt ZGc0 ZGc1 ZGc2 ZGc3 ZGc4 ZGc5 ZGc6 ZGlt
    have S1 : SlRd intR _ bv3 (slmark intM (1 + (slcnt msgM c : Int)) d) := owned_q2 (b := slmark intM (1 + (slcnt msgM c : Int)) d) (cb := dv3) (by rw [HM2.out]; exact GM)
    refine (heldMsg_rep f0 f1 f2 f3 f4 f6 bv3 dv3 (1 + (slcnt msgM c : Int)) d _ (by omega) (by omega) (by omega) S1).mono ?_
    clear S1
    rintro e v17w ⟨rfl, bq⟩
    replace b0 := below_step b0 bq
    replace ZP := row_keep bq ZP
    replace ZG := row_keep bq ZG
    replace P := owned_next P bq
    replace GM := owned_next GM bq
    clear bq
    obtain ⟨ZPc0, ZPc1, ZPc2, ZPc3, ZPc4, ZPc5, ZPc6⟩ := cells_7 ZP
    have ZPlt := (Array.getElem?_eq_some_iff.1 ZP).1
    obtain ⟨ZGc0, ZGc1, ZGc2, ZGc3, ZGc4, ZGc5, ZGc6⟩ := cells_7 ZG
    have ZGlt := (Array.getElem?_eq_some_iff.1 ZG).1
    go_wp2_with fail
    clear ZPc0 ZPc1 ZPc2 ZPc3 ZPc4 ZPc5 ZPc6 ZPlt ZGc0 ZGc1 ZGc2 ZGc3 ZGc4 ZGc5 ZGc6 ZGlt
    refine (CT.out _ b0).mono ?_
    rintro e v18w ⟨v, rfl, mm⟩
    obtain ⟨at5, ct5, rfl⟩ := slown_val mm.1
    have S5 : SlRd msgR _ at5 x0 := msgs_rd mm.1
    have mb := mm.2
    replace b0 := below_step b0 mb
    replace ZP := row_keep mb ZP
    replace ZG := row_keep mb ZG
    replace P := owned_next P mb
    replace GM := owned_next GM mb
    clear mb mm
    obtain ⟨ZPc0, ZPc1, ZPc2, ZPc3, ZPc4, ZPc5, ZPc6⟩ := cells_7 ZP
    have ZPlt := (Array.getElem?_eq_some_iff.1 ZP).1
    obtain ⟨ZGc0, ZGc1, ZGc2, ZGc3, ZGc4, ZGc5, ZGc6⟩ := cells_7 ZG
    have ZGlt := (Array.getElem?_eq_some_iff.1 ZG).1
    go_wp2_with fail
    clear ZPc0 ZPc1 ZPc2 ZPc3 ZPc4 ZPc5 ZPc6 ZPlt ZGc0 ZGc1 ZGc2 ZGc3 ZGc4 ZGc5 ZGc6 ZGlt
    refine (CIM.out _ _ _ S5).mono ?_
    rintro e v19w ⟨av6, cv6, bv6, dv6, rfl, mm⟩
    have HZP : v2w.heap.size < v18w.heap.size ∨ v19w.heap.size ≤ v2w.heap.size := .inl (Array.getElem?_eq_some_iff.1 ZP).1
    have HZG : v5w.heap.size < v18w.heap.size ∨ v19w.heap.size ≤ v5w.heap.size := .inl (Array.getElem?_eq_some_iff.1 ZG).1
    have PH : v2w.heap.size ≤ v18w.heap.size := P.2
    have GMH : v5w.heap.size ≤ v18w.heap.size := GM.2
    have Hlo : w.heap.size ≤ v18w.heap.size := b0.size
    have H := owned_made (R := (prodR msgsR msgR)) mm
    have mbH := mm.2
    replace b0 := below_step b0 mbH
    replace ZP := row_keep mbH ZP
    replace ZG := row_keep mbH ZG
    replace P := owned_next P mbH
    replace GM := owned_next GM mbH
    clear mbH mm
    obtain ⟨ZPc0, ZPc1, ZPc2, ZPc3, ZPc4, ZPc5, ZPc6⟩ := cells_7 ZP
    have ZPlt := (Array.getElem?_eq_some_iff.1 ZP).1
    obtain ⟨ZGc0, ZGc1, ZGc2, ZGc3, ZGc4, ZGc5, ZGc6⟩ := cells_7 ZG
    have ZGlt := (Array.getElem?_eq_some_iff.1 ZG).1
    go_wp2_with fail
    clear ZPc0 ZPc1 ZPc2 ZPc3 ZPc4 ZPc5 ZPc6 ZPlt ZGc0 ZGc1 ZGc2 ZGc3 ZGc4 ZGc5 ZGc6 ZGlt
    have ZH := heap_at v19w (.cells #[.int .i64 f0, .int .i64 f1, .int .i64 f2, .int .i64 f3, .int .i64 f4, .slice bv6 d.length dv6, .int .i64 f6] 27)
    have bzZH := box_below v19w (.cells #[.int .i64 f0, .int .i64 f1, .int .i64 f2, .int .i64 f3, .int .i64 f4, .slice bv6 d.length dv6, .int .i64 f6] 27)
    have PZH : v19w.heap.size < v1w.heap.size ∨ v2w.heap.size ≤ v19w.heap.size := .inr P.2
    have GMZH : v19w.heap.size < v4w.heap.size ∨ v5w.heap.size ≤ v19w.heap.size := .inr GM.2
    have HZH : v19w.heap.size < v18w.heap.size ∨ v19w.heap.size ≤ v19w.heap.size := .inr H.2
    replace b0 := below_step b0 bzZH
    replace ZP := row_keep bzZH ZP
    replace ZG := row_keep bzZH ZG
    replace P := owned_next P bzZH
    replace GM := owned_next GM bzZH
    replace H := owned_next H bzZH
    clear bzZH
    generalize v19w.alloc (.cells #[.int .i64 f0, .int .i64 f1, .int .i64 f2, .int .i64 f3, .int .i64 f4, .slice bv6 d.length dv6, .int .i64 f6] 27) = v20w at b0 ZP ZG ZH P GM H ⊢
    clear S5
    refine (eqMsgS_rep av6 av1 c cv6 cv1 _ (owned_p1 H) (owned_p1 P) (by have : (slM msgM).bk c = msgsM.bk c := rfl; omega)).mono ?_
    rintro e v21w ⟨rfl, bq⟩
    replace b0 := below_step b0 bq
    replace ZP := row_keep bq ZP
    replace ZG := row_keep bq ZG
    replace ZH := row_keep bq ZH
    replace P := owned_next P bq
    replace GM := owned_next GM bq
    replace H := owned_next H bq
    clear bq
    obtain ⟨ZPc0, ZPc1, ZPc2, ZPc3, ZPc4, ZPc5, ZPc6⟩ := cells_7 ZP
    have ZPlt := (Array.getElem?_eq_some_iff.1 ZP).1
    obtain ⟨ZGc0, ZGc1, ZGc2, ZGc3, ZGc4, ZGc5, ZGc6⟩ := cells_7 ZG
    have ZGlt := (Array.getElem?_eq_some_iff.1 ZG).1
    obtain ⟨ZHc0, ZHc1, ZHc2, ZHc3, ZHc4, ZHc5, ZHc6⟩ := cells_7 ZH
    have ZHlt := (Array.getElem?_eq_some_iff.1 ZH).1
    go_wp2_with fail
    clear ZPc0 ZPc1 ZPc2 ZPc3 ZPc4 ZPc5 ZPc6 ZPlt ZGc0 ZGc1 ZGc2 ZGc3 ZGc4 ZGc5 ZGc6 ZGlt ZHc0 ZHc1 ZHc2 ZHc3 ZHc4 ZHc5 ZHc6 ZHlt
    refine (eqMsg_rep f0 f1 f2 f3 f4 f6 d bv6 bv1 dv6 dv1 _ (owned_p2 H) (owned_p2 P) (by omega)).mono ?_
    rintro e v22w ⟨rfl, bq⟩
    replace b0 := below_step b0 bq
    replace ZP := row_keep bq ZP
    replace ZG := row_keep bq ZG
    replace ZH := row_keep bq ZH
    replace P := owned_next P bq
    replace GM := owned_next GM bq
    replace H := owned_next H bq
    clear bq
    obtain ⟨ZPc0, ZPc1, ZPc2, ZPc3, ZPc4, ZPc5, ZPc6⟩ := cells_7 ZP
    have ZPlt := (Array.getElem?_eq_some_iff.1 ZP).1
    obtain ⟨ZGc0, ZGc1, ZGc2, ZGc3, ZGc4, ZGc5, ZGc6⟩ := cells_7 ZG
    have ZGlt := (Array.getElem?_eq_some_iff.1 ZG).1
    obtain ⟨ZHc0, ZHc1, ZHc2, ZHc3, ZHc4, ZHc5, ZHc6⟩ := cells_7 ZH
    have ZHlt := (Array.getElem?_eq_some_iff.1 ZH).1
    go_wp2_with fail
    clear ZPc0 ZPc1 ZPc2 ZPc3 ZPc4 ZPc5 ZPc6 ZPlt ZGc0 ZGc1 ZGc2 ZGc3 ZGc4 ZGc5 ZGc6 ZGlt ZHc0 ZHc1 ZHc2 ZHc3 ZHc4 ZHc5 ZHc6 ZHlt
    have S1 : SlRd msgR _ av3 (slmark msgM 1 c) := owned_q1 (a := slmark msgM 1 c) (ca := cv3) (by rw [HM1.out]; exact GM)
    refine (heldMsgS_rep av3 cv3 1 c _ (by decide) (by decide) (by omega) S1).mono ?_
    clear S1
    rintro e v23w ⟨rfl, hw⟩
    rw [hw]
    clear hw v23w
    obtain ⟨ZPc0, ZPc1, ZPc2, ZPc3, ZPc4, ZPc5, ZPc6⟩ := cells_7 ZP
    have ZPlt := (Array.getElem?_eq_some_iff.1 ZP).1
    obtain ⟨ZGc0, ZGc1, ZGc2, ZGc3, ZGc4, ZGc5, ZGc6⟩ := cells_7 ZG
    have ZGlt := (Array.getElem?_eq_some_iff.1 ZG).1
    obtain ⟨ZHc0, ZHc1, ZHc2, ZHc3, ZHc4, ZHc5, ZHc6⟩ := cells_7 ZH
    have ZHlt := (Array.getElem?_eq_some_iff.1 ZH).1
    go_wp2_with fail
    clear ZPc0 ZPc1 ZPc2 ZPc3 ZPc4 ZPc5 ZPc6 ZPlt ZGc0 ZGc1 ZGc2 ZGc3 ZGc4 ZGc5 ZGc6 ZGlt ZHc0 ZHc1 ZHc2 ZHc3 ZHc4 ZHc5 ZHc6 ZHlt
    have S1 : SlRd intR _ bv3 (slmark intM (1 + (slcnt msgM c : Int)) d) := owned_q2 (b := slmark intM (1 + (slcnt msgM c : Int)) d) (cb := dv3) (by rw [HM2.out]; exact GM)
    refine (heldMsg_rep f0 f1 f2 f3 f4 f6 bv3 dv3 (1 + (slcnt msgM c : Int)) d _ (by omega) (by omega) (by omega) S1).mono ?_
    clear S1
    rintro e v24w ⟨rfl, bq⟩
    replace b0 := below_step b0 bq
    replace ZP := row_keep bq ZP
    replace ZG := row_keep bq ZG
    replace ZH := row_keep bq ZH
    replace P := owned_next P bq
    replace GM := owned_next GM bq
    replace H := owned_next H bq
    clear bq
    clear P GM H ZP ZG ZH
    go_wp2
    go_ret
    exact ⟨rfl, b0⟩
  · have HS : Hid (szI (msgsM.bk x0) 1048576 = -1) := szI_no hf
    rw [HS.out]
    go_wp2
    go_ret
    exact ⟨rfl, b0⟩

set_option maxRecDepth 100000 in
theorem lifted (os : Os) (started : os.Started) (H : Type) (enc : TypeId × Value → H) :
    ReturnsInHanded {} Try.checked os 8 .any (Rows.fnExactTakenSpec.pre6 enc Try.prog Try.f8 Rows.fnExactTakenRow.domain false) (Rows.fnExactTakenSpec.post enc Try.prog Try.f8 false true false false) := by
  refine returnsInHanded_of_change (C := Try.checked) own started (by kernel_rfl) Try.func8
    (ChangeSpec.witness6 (enc := enc) (C := Try.checked) false ⟨#[], #[.slice none 0 0, .int .i64 0], []⟩ 8 (by kernel_rfl) (by kernel_rfl) (by kernel_rfl) (by kernel_rfl)) ?_
  intro W base args ds gs before hval0 hW hcnd _
  have hval : ∀ (j : Nat) t v, Try.f8.params[j]? = some t → args[j]? = some v → Value.okWide Try.prog W .any base t v := hval0
  have hW' := hW
  obtain ⟨p, q, hA0, hV, rfl, hfz, hnd⟩ := hW
  have hA : DataW.TrodAll enc Try.prog W 0 (fun _ => true) true Try.f8.params.toList args.toList ds p := hA0
  rw [Try.params8] at hA hval
  obtain ⟨v0, vs0, d0, ds0, p0, q0, hargs, rfl, rfl, h0, r0⟩ := trodAll_cons hA
  obtain ⟨v1, vs1, d1, ds1, p1, q1, rfl, rfl, rfl, h1, r1⟩ := trodAll_cons r0
  obtain ⟨rfl, rfl, rfl⟩ := trodAll_nil r1
  obtain rfl : args = #[v0, v1] := by cases args; simp_all
  obtain ⟨rfl, rfl⟩ := trodVars_none hV
  have k0 := h0
  have lt0 : ∀ x ∈ p0, x.block < W.heap.size := by obtain ⟨m, hm⟩ := k0; exact DataW.trod_lt m _ _ _ hm
  have k1 := h1
  have lt1 : ∀ x ∈ p1, x.block < W.heap.size := by obtain ⟨m, hm⟩ := k1; exact DataW.trod_lt m _ _ _ hm
  obtain ⟨x0, a0, cap0, hc0, l0, m0, w0⟩ := open_rep opens_msgs h0
  obtain ⟨aa0, len0, cc0, rfl⟩ := okWide_slice Try.underlying42 (hval 0 42 v0 rfl rfl)
  simp only [Value.cells, List.cons.injEq, Value.slice.injEq, and_true] at hc0
  obtain ⟨rfl, rfl, rfl⟩ : a0 = aa0 ∧ x0.length = len0 ∧ cap0 = cc0 := ⟨hc0.1.symm, hc0.2.1.symm, hc0.2.2.symm⟩
  obtain ⟨a1, rfl, e1, f1, w1⟩ := open_int Try.underlying2 (hval 1 2 v1 rfl rfl) h1
  clear hA0 hval0
  refine (walk a0 cap0 x0 a1 w1 W w0 (Nat.le_trans l0 m0)).mono fun e W' ⟨he, bel⟩ => ?_
  subst he
  exact ⟨_, rfl, _, _, _, [], _, [], hW', trodAll_mk1 (shut_bool Try.underlying4 _), (trodAll_cons_mk (Below.trod laidOut (by kernel_rfl) (of_decide_eq_true (by kernel_rfl)) k0 bel lt0) (trodAll_cons_mk (Below.trod laidOut (by kernel_rfl) (of_decide_eq_true (by kernel_rfl)) k1 bel lt1) trodAll_mk0)), rfl, bel.frame _, fun h => by cases h⟩

theorem over : Rows.fnExactTakenRow.holds Try.pinned (OpenSpec.ofChange Rows.fnExactTakenSpec) :=
  OpenClaim.holds_of_wide 8 Try.f8 rfl rfl rfl rfl rfl rfl rfl ⟨rfl, rfl, rfl, rfl, rfl⟩ rfl rfl rfl rfl rfl (by kernel_rfl) Try.func8 (by kernel_rfl)
    (of_decide_eq_true (by kernel_rfl)) (by unfold Func.isWrapper; first | (rw [if_pos (by decide +kernel)]; kernel_rfl) | (rw [if_neg (by decide +kernel)]; exact ⟨rfl, rfl⟩))
    (fun os started H enc _ => lifted os started H enc)

theorem proved : Rows.FnExactTakenSaid :=
  over
#print axioms proved
end Go.Proofs.Ytbbplcpfkmmcdaa.fnExactTaken
