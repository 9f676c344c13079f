
/- Marks of lists of ops, of the laws' own helper. Conditions: lengths that a machine can hold. -/
import Derived.Test.YtbcggkfbahmpoaaJLines6OpsOpLLinesOk
import Derived.Test.YtbcggkfbahmpoaaElem
import Derived.LoopN
namespace Go.Proofs.Ytbcggkfbahmpoaa
open Go.ChangeShapes Go.WideShapes Go.ChangeAt Go.RowKit
set_option linter.unusedVariables false

theorem op_own4 {w : World} {S : Foot} {c : List Value} {u : OpD} (h : opR.own w S c u) : c = [.int .i64 u.1, .int .i64 u.2.1, .int .i64 u.2.2.1, .int .i64 u.2.2.2] ∧ In4 u := op_rd (opR.own_rd h)
theorem op_set0 {w : World} {c : List Value} {x : OpD} {y : Int} (hy : In64 y) (hr : opR.rd w c x) : ∀ W T, opR.own W T c x → opR.own W T (c.set 0 (.int .i64 y)) (y, x.2) := by
  intro W T ho
  obtain ⟨rfl, h⟩ := op_own4 ho
  exact own_op (u := (y, x.2)) ⟨hy, h.2.1, h.2.2.1, h.2.2.2⟩
theorem op_set1 {w : World} {c : List Value} {x : OpD} {y : Int} (hy : In64 y) (hr : opR.rd w c x) : ∀ W T, opR.own W T c x → opR.own W T (c.set 1 (.int .i64 y)) (x.1, y, x.2.2) := by
  intro W T ho
  obtain ⟨rfl, h⟩ := op_own4 ho
  exact own_op (u := (x.1, y, x.2.2)) ⟨h.1, hy, h.2.2.1, h.2.2.2⟩
theorem op_set2 {w : World} {c : List Value} {x : OpD} {y : Int} (hy : In64 y) (hr : opR.rd w c x) : ∀ W T, opR.own W T c x → opR.own W T (c.set 2 (.int .i64 y)) (x.1, x.2.1, y, x.2.2.2) := by
  intro W T ho
  obtain ⟨rfl, h⟩ := op_own4 ho
  exact own_op (u := (x.1, x.2.1, y, x.2.2.2)) ⟨h.1, h.2.1, hy, h.2.2.2⟩
theorem op_set3 {w : World} {c : List Value} {x : OpD} {y : Int} (hy : In64 y) (hr : opR.rd w c x) : ∀ W T, opR.own W T c x → opR.own W T (c.set 3 (.int .i64 y)) (x.1, x.2.1, x.2.2.1, y) := by
  intro W T ho
  obtain ⟨rfl, h⟩ := op_own4 ho
  exact own_op (u := (x.1, x.2.1, x.2.2.1, y)) ⟨h.1, h.2.1, h.2.2.1, hy⟩
theorem in64_k {k : Int} (h0 : 0 ≤ k) (h1 : k ≤ 1152921504606846976) : In64 k := by constructor <;> omega
theorem len_set4 {α : Type} {xs : List α} {j : Nat} {a b c d : α} : ((((xs.set j a).set j b).set j c).set j d) = xs.set j d := by simp
theorem get_set {α : Type} {xs : List α} {j : Nat} {x a : α} (h : xs[j]? = some x) : (xs.set j a)[j]? = some a := by
  rw [List.getElem?_set_self (List.getElem?_eq_some_iff.1 h).1]

theorem markOpS_nil (k : Int) (w : World) :
    Calls Try.prog 15 #[.slice none 0 0, .int .i64 k] w fun e' w' => e' = .returned (.int .i64 k) ∧ w' = w := by
  go_enter Try.func15, Try.ntmps15
  go_wp2
  refine wp_loop_rounds 1 ?_
  rw [rounds_succ]
  go_wp2
  go_ret
  exact ⟨rfl, rfl⟩
/-- The four stores of one round. -/
theorem markOp_round {S : Foot} {G n cap j : Nat} {w : World} {xs : List OpD} {x : OpD} {kk : Int} (h0 : 0 ≤ kk) (h1 : kk ≤ 1152921504606846970) (h : opsR.own w S [.slice (some ⟨G, 0, none⟩) n cap] xs) (hx : xs[j]? = some x) :
    opsR.own ((((w.setCell ⟨G, j * 4, none⟩ (.int .i64 kk)).setCell ⟨G, j * 4 + 1, none⟩ (.int .i64 (kk + 1))).setCell ⟨G, j * 4 + 2, none⟩ (.int .i64 (kk + 1 + 1))).setCell ⟨G, j * 4 + 3, none⟩ (.int .i64 (kk + 1 + 1 + 1))) S [.slice (some ⟨G, 0, none⟩) n cap] (xs.set j (kk, kk + 1, kk + 1 + 1, kk + 1 + 1 + 1)) ∧
    Chg (fun k => k = G) w ((((w.setCell ⟨G, j * 4, none⟩ (.int .i64 kk)).setCell ⟨G, j * 4 + 1, none⟩ (.int .i64 (kk + 1))).setCell ⟨G, j * 4 + 2, none⟩ (.int .i64 (kk + 1 + 1))).setCell ⟨G, j * 4 + 3, none⟩ (.int .i64 (kk + 1 + 1 + 1))) := by
  have a1 := elem_set (i := 0) (v := .int .i64 kk) h hx (by decide) (fun c hr => op_set0 (in64_k (by omega) (by omega)) hr)
  have a2 := elem_set (i := 1) (v := .int .i64 (kk + 1)) a1 (get_set hx) (by decide) (fun c hr => op_set1 (in64_k (by omega) (by omega)) hr)
  rw [List.set_set] at a2
  have a3 := elem_set (i := 2) (v := .int .i64 (kk + 1 + 1)) a2 (get_set hx) (by decide) (fun c hr => op_set2 (in64_k (by omega) (by omega)) hr)
  rw [List.set_set] at a3
  have a4 := elem_set (i := 3) (v := .int .i64 (kk + 1 + 1 + 1)) a3 (get_set hx) (by decide) (fun c hr => op_set3 (in64_k (by omega) (by omega)) hr)
  rw [List.set_set] at a4
  exact ⟨a4, ((chg_set.trans chg_set).trans chg_set).trans chg_set⟩
set_option maxHeartbeats 2000000 in
theorem markOpS_rep (S : Foot) (v : Value) (k : Int) (xs : List OpD) (w : World) (h0 : 0 ≤ k) (h1 : k ≤ 288230376151711744) (hm : slcnt opM xs ≤ 288230376151711744) (h : opsR.own w S [v] xs) :
    Calls Try.prog 15 #[v, .int .i64 k] w fun e' w' => e' = .returned (.int .i64 (k + slcnt opM xs)) ∧ opsR.own w' S [v] (slmark opM k xs) ∧ Chg S w w' := by
  rcases slown_form h with ⟨rfl, rfl⟩ | ⟨G, cap, rfl, hG⟩
  · exact (markOpS_nil k w).mono fun e w' ⟨e1, e2⟩ => ⟨by simpa [slcnt] using e1, by rw [e2]; exact h, by rw [e2]; exact Chg.refl _ _⟩
  have hcn := cnt_ops xs
  have H : Hid _ := h
  clear h
  go_enter Try.func15, Try.ntmps15
  go_wp2
  go_loopw [1, 5] (fun q i wr => ∃ j : Nat, j ≤ xs.length ∧ i = .int .i64 j ∧ q = .int .i64 (k + slcnt opM (xs.take j)) ∧ opsR.own wr S [.slice (some ⟨G, 0, none⟩) xs.length cap] (pmark opM k xs j) ∧ Chg S w wr) (fun _ i _ => xs.length - (intOf i).toNat)
  case atStart => exact ⟨0, Nat.zero_le _, rfl, by simp [slcnt], by rw [pmark_zero]; exact H.out, Chg.refl _ _⟩
  case round =>
    obtain ⟨j, hj, rfl, rfl, ho, hs⟩ := hrel
    by_cases hlt : j < xs.length
    · have hlt' : (j : Int) < (xs.length : Int) := by omega
      obtain ⟨x, hx⟩ : ∃ x, xs[j]? = some x := ⟨_, List.getElem?_eq_getElem hlt⟩
      have HT : Hid (slcnt opM (xs.take (j + 1)) = slcnt opM (xs.take j) + 4) := slcnt_step (M := opM) hx
      have hT : slcnt opM (xs.take j) + 4 ≤ slcnt opM xs := slcnt_get (M := opM) hx
      have HPS := pmark_step (M := opM) (k := k) hx
      obtain ⟨G1, cap1, Sj, Tj, cj, hv, -, ob, -⟩ := elem_focus ho (pmark_at hx)
      simp only [Value.slice.injEq, Option.some.injEq, Addr.mk.injEq, and_true] at hv
      obtain ⟨rfl, -, rfl⟩ := hv
      obtain ⟨rfl, -⟩ := op_own4 ob.own
      have y0 := at_cell0 ob.lies
      have y1 := at_cell ob.lies 1 rfl
      have y2 := at_cell ob.lies 2 rfl
      have y3 := at_cell ob.lies 3 rfl
      have t0 := at_froz0 ob.lies
      have t1 := at_froz ob.lies 1
      have t2 := at_froz ob.lies 2
      have t3 := at_froz ob.lies 3
      rw [show j * opR.size = j * 4 from rfl] at y0 y1 y2 y3 t0 t1 t2 t3
      generalize hkk : k + (slcnt opM (xs.take j) : Int) = kk at HPS ⊢
      have hk0 : 0 ≤ kk ∧ kk ≤ 576460752303423488 := by omega
      obtain ⟨O2, C2⟩ := markOp_round (kk := kk) hk0.1 (by omega) ho (pmark_at hx)
      rw [show (kk, kk + 1, kk + 1 + 1, kk + 1 + 1 + 1) = opM.mE kk x from rfl, HPS] at O2
      have HF : Hid _ := And.intro O2 (hs.trans (C2.mono (fun b hb => by rw [hb]; exact hG)))
      clear O2 C2 ob ho hs HPS hx
      generalize slcnt opM (xs.take j) = TT at HT hT hkk
      go_wp2
      go_roundw
      case rel => exact ⟨j + 1, by omega, by go_num, by rw [HT.out]; congr 1; omega, HF.out.1, HF.out.2⟩
      case measure => simp [intOf]; omega
    · have hjn : j = xs.length := by omega
      subst hjn
      rw [List.take_length]
      rw [pmark_all] at ho
      have HF : Hid _ := And.intro ho hs
      clear ho hs
      go_wp2
      go_ret
      exact ⟨rfl, HF.out.1, HF.out.2⟩
end Go.Proofs.Ytbcggkfbahmpoaa
