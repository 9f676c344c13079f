
/- A region that draws its order and whose last operation waits for all others: one walk over a class of worlds for all but the last, then the last one by itself. No program here. -/
import Derived.Test.YtbcggkfbahmpoaaJOwn5OpensBaseClassesBits
namespace Go.Proofs.Ytbcggkfbahmpoaa
open Go.RowKit
set_option linter.unusedVariables false

/-- What stands in the last one's place while the others are walked: it yields a constant. -/
def idle (o : Oper) : Oper := { o with op := .move (.const (.bool false)) }
def lastO : List Oper → Oper
  | [] => { dst := none, op := .move (.const (.bool false)), type := 0, pos := "", after := #[], guard := none }
  | [o] => o
  | _ :: o :: r => lastO (o :: r)
theorem lastO_eq : ∀ {l : List Oper}, l ≠ [] → l.dropLast ++ [lastO l] = l
  | [], h => (h rfl).elim
  | [o], _ => rfl
  | p :: o :: r, _ => by
    have := lastO_eq (l := o :: r) (by simp)
    rw [List.dropLast_cons_of_ne_nil (by simp), List.cons_append, lastO, this]
def lastOk (l : List Oper) (o : Oper) : Bool :=
  (List.range l.length).all (fun i => o.after.any (fun e => e.on == i && Region.binds .any e)) && (List.range (l.length + 1)).all (fun i => match (l ++ [o])[i]? with
    | none => true
    | some p => p.after.all (fun e => decide (e.on < i))) && o.guard.isNone && o.dst.isNone

section
variable {P : Program} {C : World → Prop} {l : List Oper} {o : Oper}

theorem ops_ne {i : Nat} (h : i ≠ l.length) : (l ++ [idle o]).toArray[i]? = (l ++ [o]).toArray[i]? := by
  simp only [List.getElem?_toArray, List.getElem?_append]
  by_cases hi : i < l.length
  · rw [if_pos hi, if_pos hi]
  · rw [if_neg hi, if_neg hi, List.getElem?_eq_none (by simp; omega), List.getElem?_eq_none (by simp; omega)]
theorem ops_at (p : Oper) : (l ++ [p]).toArray[l.length]? = some p := by simp
theorem ready_idle {listed : Array Bool} {j : Nat} : j ∈ Region.ready .any (l ++ [idle o]).toArray listed ↔ j ∈ Region.ready .any (l ++ [o]).toArray listed := by
  rw [mem_ready, mem_ready]
  by_cases h : j = l.length
  · subst h
    rw [ops_at, ops_at]
    constructor
    · rintro ⟨h1, p, hp, h2⟩
      cases hp
      exact ⟨h1, o, rfl, h2⟩
    · rintro ⟨h1, p, hp, h2⟩
      cases hp
      exact ⟨h1, idle o, rfl, h2⟩
  · rw [ops_ne h]
theorem yielded_idle (ts : Array Value) : yielded (l ++ [idle o]).toArray ts = yielded (l ++ [o]).toArray ts := by
  funext j
  unfold yielded
  by_cases h : j = l.length
  · subst h
    rw [ops_at, ops_at]
    rfl
  · rw [ops_ne h]

theorem ready_some {listed : Array Bool} (hL : lastOk l o = true) (hs : listed.size = l.length + 1) (hn : listed.getD l.length true = false) : ∃ j, j ∈ Region.ready .any (l ++ [o]).toArray listed := by
  simp only [lastOk, Bool.and_eq_true, List.all_eq_true, List.mem_range] at hL
  obtain ⟨⟨⟨-, h2⟩, -⟩, -⟩ := hL
  have key : ∀ k, k ≤ l.length → (∀ i, i < k → listed.getD i true = true) → ∃ j, j ∈ Region.ready .any (l ++ [o]).toArray listed := by
    intro k
    induction h : l.length - k generalizing k with
    | zero =>
      intro hk hall
      have e : k = l.length := by omega
      subst e
      refine ⟨l.length, mem_ready.2 ⟨hn, o, ops_at o, fun e he _ => ?_⟩⟩
      have h3 := h2 l.length (by omega)
      rw [show (l ++ [o])[l.length]? = some o from by simp] at h3
      have h4 := Array.all_eq_true_iff_forall_mem.1 h3 e he
      simp only [decide_eq_true_eq] at h4
      have h5 := hall e.on h4
      rw [Array.getD_eq_getD_getElem?, Array.getElem?_eq_getElem (by omega)] at h5 ⊢
      exact h5
    | succ m ih =>
      intro hk hall
      by_cases hu : listed.getD k true = true
      · exact ih (k + 1) (by omega) (by omega) fun i hi => by
          by_cases hik : i = k
          · rw [hik]
            exact hu
          · exact hall i (by omega)
      · have hkl : k < (l ++ [o]).length := by simp; omega
        refine ⟨k, mem_ready.2 ⟨by simpa using hu, (l ++ [o])[k], by simp [List.getElem?_eq_getElem hkl], fun e he _ => ?_⟩⟩
        have h3 := h2 k (by simp at hkl; omega)
        rw [List.getElem?_eq_getElem hkl] at h3
        have h4 := Array.all_eq_true_iff_forall_mem.1 h3 e he
        simp only [decide_eq_true_eq] at h4
        have h5 := hall e.on h4
        rw [Array.getD_eq_getD_getElem?, Array.getElem?_eq_getElem (by simp at hkl; omega)] at h5 ⊢
        exact h5
  exact key 0 (Nat.zero_le _) (fun i hi => by omega)
theorem ready_over {listed : Array Bool} (hL : lastOk l o = true) (hs : listed.size = l.length + 1) (hr : l.length ∈ Region.ready .any (l ++ [o]).toArray listed) : Region.ready .any (l ++ [o]).toArray (listed.setIfInBounds l.length true) = [] := by
  simp only [lastOk, Bool.and_eq_true, List.all_eq_true, List.mem_range] at hL
  obtain ⟨⟨⟨h1, -⟩, -⟩, -⟩ := hL
  obtain ⟨hn, p, hp, hall⟩ := mem_ready.1 hr
  rw [ops_at] at hp
  cases hp
  refine List.eq_nil_iff_forall_not_mem.2 fun j hj => ?_
  obtain ⟨hj1, -⟩ := mem_ready.1 hj
  by_cases hjn : j = l.length
  · subst hjn
    rw [Array.getD_eq_getD_getElem?, Array.getElem?_setIfInBounds_self_of_lt (by omega)] at hj1
    simp at hj1
  · rw [Array.getD_eq_getD_getElem?, Array.getElem?_setIfInBounds_ne (by omega)] at hj1
    by_cases hjl : j < l.length
    · obtain ⟨i, hi, heq⟩ := Array.any_eq_true.1 (h1 j hjl)
      have he := Array.getElem_mem hi
      simp only [Bool.and_eq_true, beq_iff_eq] at heq
      have h5 := hall _ he heq.2
      rw [heq.1, Array.getD_eq_getD_getElem?] at h5
      rw [Array.getElem?_eq_getElem (by omega)] at h5 hj1
      simp at h5 hj1
      rw [h5] at hj1
      cases hj1
    · rw [Array.getElem?_eq_none (by omega)] at hj1
      simp at hj1

theorem wpAny_last {Q : Act → Prop} {Q' : Exit → Act → World → Prop} (hL : lastOk l o = true) (hQ : ∀ a w, C w → Q a → o.wp P a w (fun a' w' => Q' .normal a' w') Q') : ∀ (fuel : Nat) (listed : Array Bool) (a : Act) (w : World), C w → listed.size = l.length + 1 → listed.getD l.length true = false →
    wpAnyQ P .any (l ++ [idle o]).toArray C Q fuel listed a → wpAny P .any (l ++ [o]).toArray Q' fuel listed a w := by
  have hg : o.guard = none ∧ o.dst = none := by
    simp only [lastOk, Bool.and_eq_true] at hL
    exact ⟨Option.isNone_iff_eq_none.1 hL.1.2, Option.isNone_iff_eq_none.1 hL.2⟩
  intro fuel
  induction fuel with
  | zero =>
    intro listed a w hw hs hn h
    obtain ⟨j, hj⟩ := ready_some hL hs hn
    rw [← ready_idle, h.1] at hj
    cases hj
  | succ fuel ih =>
    intro listed a w hw hs hn h
    refine ⟨fun h0 => ?_, fun i hi => ?_⟩
    · obtain ⟨j, hj⟩ := ready_some hL hs hn
      rw [h0] at hj
      cases hj
    · have hq := h.2 i (ready_idle.2 hi)
      by_cases hin : i = l.length
      · subst hin
        have hover := ready_over hL hs hi
        have hover' : Region.ready .any (l ++ [idle o]).toArray (listed.setIfInBounds l.length true) = [] := List.eq_nil_iff_forall_not_mem.2 fun j hj => by
          rw [ready_idle, hover] at hj
          cases hj
        have hqa : Q a := by
          unfold qOp at hq
          rw [ops_at] at hq
          have hwt : Region.wanted (idle o) (yielded (l ++ [idle o]).toArray a.tmps) = true := by
            unfold Region.wanted
            simp [idle, hg.1]
          simp only [hwt, if_true] at hq
          obtain ⟨v, -, hk⟩ := hq
          have e : a.put (idle o).dst v = a := by
            have : (idle o).dst = none := hg.2
            rw [this]
            rfl
          rw [e] at hk
          cases fuel with
          | zero => exact hk.2
          | succ f => exact hk.1 hover'
        unfold wpOp
        rw [ops_at]
        have hwt : Region.wanted o (yielded (l ++ [o]).toArray a.tmps) = true := by
          unfold Region.wanted
          simp [hg.1]
        simp only [hwt, if_true]
        refine .inl (Oper.wp_mono (fun a' w' h' => ?_) (hQ a w hw hqa))
        cases fuel with
        | zero => exact ⟨hover, h'⟩
        | succ f => exact ⟨fun _ => h', fun j hj => by rw [hover] at hj; cases hj⟩
      · refine wpOp_of_qOp (C := C) hw (fun a' w' hw' hk => ih (listed.setIfInBounds i true) a' w' hw' (by simpa using hs) (by rw [Array.getD_eq_getD_getElem?, Array.getElem?_setIfInBounds_ne hin, ← Array.getD_eq_getD_getElem?]; exact hn) hk) ?_
        unfold qOp at hq ⊢
        rw [ops_ne hin, yielded_idle] at hq
        exact hq

theorem wpQuiet_idle {ops : Array Oper} {Q : Act → Prop} (hg : o.guard = none ∧ o.dst = none) : ∀ (l : List Oper) (a : Act), wpQuiet P ops C Q l a → wpQuiet P ops C Q (l ++ [idle o]) a
  | [], a, h => by
    have hwt : Region.wanted (idle o) (yielded ops a.tmps) = true := by
      unfold Region.wanted
      simp [idle, hg.1]
    show if Region.wanted (idle o) (yielded ops a.tmps) then (idle o).quiet P a C (wpQuiet P ops C Q []) else _
    rw [if_pos hwt]
    refine ⟨.bool false, fun w hw => ?_, ?_⟩
    · unfold Oper.quietAt
      simp [idle, execOp, go_sem, Oper.quietUpon]
    · have : (idle o).dst = none := hg.2
      rw [this]
      exact h
  | p :: l, a, h => by
    unfold wpQuiet at h
    show wpQuiet P ops C Q (p :: (l ++ [idle o])) a
    unfold wpQuiet
    split
    · rename_i hwt
      rw [if_pos hwt] at h
      exact Oper.quiet_mono (fun a' h' => wpQuiet_idle hg l a' h') h
    · rename_i hwt
      rw [if_neg hwt] at h
      exact wpQuiet_idle hg l _ h

theorem region_last {id : Nat} {Q : Exit → Act → World → Prop} {a : Act} {w : World} {ll : List Oper} (C : World → Prop) (hm : P.follows .mixedOrders = true) (hB : Region.lexB .any (ll.dropLast ++ [idle (lastO ll)]).toArray = true) (hL : lastOk ll.dropLast (lastO ll) = true) (hne : ll ≠ []) (h0 : C w.drew)
    (h : Nonempty (Cls C) → wpQuiet P (ll.dropLast ++ [idle (lastO ll)]).toArray (fun w' => ∃ n : Cls C, w' = n.w) (fun a' => ∀ w', C w' → (lastO ll).wp P a' w' (fun a'' w'' => Q .normal a'' w'') Q) ll.dropLast a) : (Code.region id ll.toArray true).wp P Q a w := by
  have hg : (lastO ll).guard = none ∧ (lastO ll).dst = none := by
    simp only [lastOk, Bool.and_eq_true] at hL
    exact ⟨Option.isNone_iff_eq_none.1 hL.1.2, Option.isNone_iff_eq_none.1 hL.2⟩
  simp only [Region.lexB, Bool.and_eq_true] at hB
  have hq := wpQuiet_idle hg _ _ (h ⟨⟨w.drew, h0⟩⟩)
  have h1 := wpAnyQ_lex (P := P) (C := fun w' => ∃ n : Cls C, w' = n.w) (md := .any) hB.1 (ll.dropLast ++ [idle (lastO ll)]) 0 (Array.replicate (ll.dropLast ++ [idle (lastO ll)]).toArray.size false) a (by simp) (by simpa using hB.2) hq
  have h2 := wpAny_last (P := P) (C := fun w' => ∃ n : Cls C, w' = n.w) (Q' := Q) hL (fun a' w' hw' hQ => hQ w' (by obtain ⟨n, e⟩ := hw'; rw [e]; exact n.h)) _ _ a w.drew ⟨⟨w.drew, h0⟩, rfl⟩ (by simp) (by simp) h1
  rw [lastO_eq hne] at h2
  refine wp_region_any hm ?_
  have e1 : (ll.dropLast ++ [idle (lastO ll)]).length = ll.length := by
    have := congrArg List.length (lastO_eq hne)
    simpa using this
  simpa [e1] using h2
end
end Go.Proofs.Ytbcggkfbahmpoaa
