
/- BegunX. -/
import Derived.Test.YthbclkpmgcfdnaaGreatDoorBegun
import Derived.Test.YthbclkpmgcfdnaaGreatDoorJLines614Iters
import Derived.Test.YthbclkpmgcfdnaaGreatDoorJDropImpl4CorePlain
/- Bounds on what is begun: a right core is small, and so are its letters. No program here. -/
namespace Go.Proofs.YthbclkpmgcfdnaaGreatDoor
open Go.ChangeShapes Go.WideShapes Go.ChangeAt Go.RowKit
set_option linter.unusedVariables false
theorem bd_op : Bd opM 4 := bd_prod bd_int (bd_prod bd_int (bd_prod bd_int bd_int))
theorem bd_msg : Bd msgM 7 := bd_prod bd_int (bd_prod bd_int (bd_prod bd_int (bd_prod bd_int (bd_prod bd_int (bd_prod (bd_sl bd_int) bd_int)))))
theorem bv_msgs : Bv msgsM 7 := bv_sl bd_msg
theorem bv_core : Bv coreM 10 := bv_prod (bv_prod (bv_sl (bd_sl bd_way)) bv_ints) (bv_prod (bv_sl bd_op) (bv_prod bv_int (bv_prod bv_int (bv_prod (bv_prod bv_int (bv_prod bv_int bv_ints)) bv_ints))))
theorem core_small {y : CoreD} (h : coreB y = true) : coreM.bk y ≤ 8388608 := by
  have hP := core_p h
  have e : coreM.bk y = cacheM.bk y.1 + (opsM.bk y.2.1 + (0 + (0 + ((0 + (0 + intsM.bk y.2.2.2.2.1.2.2)) + intsM.bk y.2.2.2.2.2)))) := rfl
  rw [e, bk_ops, bk_ints7, bk_ints7]
  have h1 : cacheM.bk y.1 ≤ 1000 := ok_bk hP.ok
  have h2 : y.2.1.length ≤ 30 := hP.len
  have h3 := held_len h
  have h4 := told_len h
  omega
theorem data_len {d : List Int} (h : dataB d = true) : d.length ≤ 2 := by
  unfold dataB at h
  rw [Bool.or_eq_true] at h
  rcases h with h | h
  · rw [List.isEmpty_iff.1 h]; decide
  · exact Nat.le_of_eq (isL_len h)
theorem msgs_small {l : List MsgD} (h : RightL l) : msgsM.bk l ≤ 8388608 := by
  obtain ⟨h1, h2⟩ := h
  match l, h1, h2 with
  | [], _, _ => decide
  | [m], _, h2 =>
    have hm := h2 m (List.mem_singleton.2 rfl)
    have e : msgsM.bk [m] = 1 + (msgM.bk m + 0) := rfl
    rw [e, bk_msg, bk_ints7]
    have hd : m.2.2.2.2.2.1.length ≤ 2 := by
      simp only [msgB, Bool.and_eq_true] at hm
      exact data_len hm.2.2.2.1
    omega
  | _ :: _ :: _, h1, _ => simp at h1
theorem begun_small (x : CoreD) (id : Int) : coreM.bk x ≤ 1048576 → coreM.bk (begunI x id).1 ≤ 8388608 ∧ msgsM.bk (begunI x id).2.1 ≤ 8388608 := by
  intro _
  unfold begunI
  split
  · rename_i h
    rw [Bool.and_eq_true] at h
    have hid : 0 ≤ id ∧ id ≤ 3 := by simpa [betw] using h.2
    obtain ⟨q1, q2, -⟩ := begin_core (core_p h.1) hid
    exact ⟨core_small (core_iff.2 q1), msgs_small q2⟩
  · exact ⟨by decide, by decide⟩
end Go.Proofs.YthbclkpmgcfdnaaGreatDoor
