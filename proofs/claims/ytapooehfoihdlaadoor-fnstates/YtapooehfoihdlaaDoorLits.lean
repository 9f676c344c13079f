/- A map literal whose entries are laid in whatever order: every order comes to the same map. No program in it. -/
import Derived.Test.YtapooehfoihdlaaDoorMapsV
namespace Go.Proofs.YtapooehfoihdlaaDoor
open Go.ChangeShapes Go.WideShapes Go.RowKit
open Go.Maps (Keyed)
set_option linter.unusedVariables false

theorem any_mem {α : Type} {xs : Array α} {p : α → Bool} : xs.any p = true ↔ ∃ x, x ∈ xs ∧ p x = true := by
  rw [Array.any_eq_true']

/-- Behind 'listed' only what is in J may come up until all of J has come up. -/
def litOk (ops : Array Oper) (J : List Nat) (listed : Array Bool) : Bool :=
  listed.size == ops.size && J.all (fun j => decide (j < ops.size) && (match ops[j]? with | none => false | some o => o.after.all fun e => !Region.binds .any e || (listed.getD e.on false && !J.contains e.on))) && (List.range ops.size).all fun i => J.contains i || listed.getD i true || (match ops[i]? with
    | none => true
    | some o => J.all (fun j => o.after.any (fun e => e.on == j && Region.binds .any e)) || o.after.any (fun e => !J.contains e.on && Region.binds .any e && !listed.getD e.on false))

theorem listed_in {ops : Array Oper} {J : List Nat} {listed0 listed : Array Bool} (hL : litOk ops J listed0 = true) (hs : listed.size = listed0.size) (ho : ∀ i, J.contains i = false → listed.getD i true = listed0.getD i true)
    {j0 : Nat} (hj : j0 ∈ J) (hj0 : listed.getD j0 false = false) {i : Nat} (hi : i ∈ Region.ready .any ops listed) : i ∈ J ∧ listed.getD i true = false := by
  simp only [litOk, Bool.and_eq_true, beq_iff_eq, List.all_eq_true, List.mem_range] at hL
  obtain ⟨⟨h1, h2⟩, h3⟩ := hL
  obtain ⟨hn, o, hop, hd⟩ := mem_ready.1 hi
  have hlt : i < ops.size := by
    rcases Nat.lt_or_ge i ops.size with h | h
    · exact h
    · rw [Array.getElem?_eq_none h] at hop; cases hop
  have ho' : ∀ k, J.contains k = false → listed.getD k false = listed0.getD k false := fun k hk => by
    have := ho k hk
    rcases Nat.lt_or_ge k listed.size with h | h
    · have h' : k < listed0.size := by omega
      simpa [h, h'] using this
    · have h' : listed0.size ≤ k := by omega
      simp [Array.getElem?_eq_none h, Array.getElem?_eq_none h']
  by_cases hJ : J.contains i = true
  · exact ⟨by simpa using hJ, hn⟩
  · have hJ' : J.contains i = false := by simpa using hJ
    have h4 := h3 i hlt
    rw [hJ', hop, ← ho i hJ', hn] at h4
    simp only [Bool.false_or, Bool.or_eq_true, List.all_eq_true, any_mem] at h4
    rcases h4 with h4 | ⟨e, he, h4⟩
    · obtain ⟨e, he, h5⟩ := h4 j0 hj
      simp only [Bool.and_eq_true, beq_iff_eq] at h5
      have := hd e he h5.2
      rw [h5.1, hj0] at this
      cases this
    · simp only [Bool.and_eq_true, Bool.not_eq_true'] at h4
      have := hd e he h4.1.2
      rw [ho' e.on h4.1.1, h4.2] at this
      cases this

/-- One insert, at the operation. -/
structure Ins (P : Program) (ops : Array Oper) (a : Act) (k e : TypeId) (b : Nat) (key : Nat → Value) (val : Nat → Int) (j : Nat) : Prop where
  ins : ∃ o t m x v, ops[j]? = some o ∧ o.dst = none ∧ o.guard = none ∧ o.op = Op.insert t m x v ∧ P.underlying t = some (.map k e) ∧ a.eval m = .map (some b) ∧ a.eval x = key j ∧ a.eval v = .int .i64 (val j)
  lit : ∃ l, keyOf P k (key j) = some l
  wf : (Lit.int .i64 (val j)).wf = true

theorem wpAny_inserts {P : Program} {ops : Array Oper} {Q : Exit → Act → World → Prop} {J : List Nat} {listed0 listed1 : Array Bool} {a : Act} {k e : TypeId} {b : Nat} {key : Nat → Value} {val : Nat → Int}
    (hL : litOk ops J listed0 = true) (hJ : J.Nodup) (hs1 : listed1.size = listed0.size) (h1' : ((List.range listed0.size).all fun i => listed1.getD i true == (J.contains i || listed0.getD i true)) = true)
    (hI : ∀ j ∈ J, Ins P ops a k e b key val j) (K : Keyed P k) (he : P.underlying e = some (.int .i64)) (hinj : ∀ i ∈ J, ∀ j ∈ J, key i = key j → i = j) {W : World} {f0 : Value → Option Int} {n0 fuel : Nat} (hn0 : n0 + J.length < maxLen)
    (hend : ∀ w' n f, MapV P k e w' b n f → n ≤ n0 + J.length → (∀ j ∈ J, f (key j) = some (val j)) → (∀ v, (∀ j ∈ J, v ≠ key j) → f v = f0 v) → W.grownBy w' (some b) → wpAny P .any ops Q fuel listed1 a w') :
    ∀ (r : Nat) (listed : Array Bool) (w : World) (n : Nat) (f : Value → Option Int), listed.size = listed0.size → (∀ i, J.contains i = false → listed.getD i true = listed0.getD i true) → (J.filter fun j => !listed.getD j true).length = r →
      MapV P k e w b n f → n + r ≤ n0 + J.length → (∀ j ∈ J, listed.getD j true = true → f (key j) = some (val j)) → (∀ v, (∀ j ∈ J, v ≠ key j) → f v = f0 v) → W.grownBy w (some b) → wpAny P .any ops Q (fuel + r) listed a w := by
  intro r
  induction r with
  | zero =>
    intro listed w n f hs ho hr hm hn hf hf0 hg
    have hall : ∀ j ∈ J, listed.getD j true = true := fun j hj => by
      by_cases h : listed.getD j true = true
      · exact h
      · have : j ∈ J.filter fun j => !listed.getD j true := List.mem_filter.2 ⟨hj, by simpa using h⟩
        rw [List.length_eq_zero_iff.1 hr] at this
        cases this
    have e1 : listed = listed1 := by
      refine Array.ext (by rw [hs, hs1]) fun i hi1 hi2 => ?_
      have h2 : listed1.getD i true = (J.contains i || listed0.getD i true) := by
        have := List.all_eq_true.1 h1' i (List.mem_range.2 (by omega))
        exact beq_iff_eq.1 this
      by_cases hJ : J.contains i = true
      · have := hall i (by simpa using hJ)
        rw [hJ] at h2
        simp only [Bool.true_or] at h2
        simp [hi1] at this
        simp [hi2] at h2
        rw [this, h2]
      · have hJ' : J.contains i = false := by simpa using hJ
        have := ho i hJ'
        rw [hJ', Bool.false_or, ← this] at h2
        simpa [hi1, hi2] using h2.symm
    rw [e1]
    exact hend w n f hm (by omega) (fun j hj => hf j hj (hall j hj)) hf0 hg
  | succ r ih =>
    intro listed w n f hs ho hr hm hn hf hf0 hg
    have hL' := hL
    simp only [litOk, Bool.and_eq_true, beq_iff_eq, List.all_eq_true, decide_eq_true_eq] at hL'
    obtain ⟨j0, hj0⟩ : ∃ j0, j0 ∈ J.filter fun j => !listed.getD j true := by
      cases h : J.filter fun j => !listed.getD j true with
      | nil => rw [h] at hr; simp at hr
      | cons x xs => exact ⟨x, by simp⟩
    obtain ⟨hj, hjn⟩ := List.mem_filter.1 hj0
    have hjl : j0 < listed.size := by have := (hL'.1.2 j0 hj).1; omega
    have hjn' : listed.getD j0 false = false := by simpa [hjl] using hjn
    refine ⟨fun h0 => ?_, fun i hi => ?_⟩
    · -- j0 waits for nobody that has not come up: so something is ready only if it is; else all that it waits for .. : asked of the list
      exfalso
      have hr0 : j0 ∈ Region.ready .any ops listed := by
        have h5 := (hL'.1.2 j0 hj).2
        refine mem_ready.2 ⟨by simpa [hjl] using hjn, ?_⟩
        cases hop : ops[j0]? with
        | none => rw [hop] at h5; cases h5
        | some o =>
          rw [hop] at h5
          refine ⟨o, rfl, fun e he hb => ?_⟩
          have h6 := (Array.all_eq_true_iff_forall_mem.1 h5) e he
          rw [hb] at h6
          simp only [Bool.not_true, Bool.false_or, Bool.and_eq_true, Bool.not_eq_true'] at h6
          have := ho e.on h6.2
          rcases Nat.lt_or_ge e.on listed.size with h | h
          · have h' : e.on < listed0.size := by omega
            simp [h, h'] at this h6 ⊢
            rw [this]; exact h6.1
          · have h' : listed0.size ≤ e.on := by omega
            simp [Array.getElem?_eq_none h'] at h6
      rw [h0] at hr0
      cases hr0
    · obtain ⟨hiJ, hin⟩ := listed_in hL hs ho hj hjn' hi
      obtain ⟨o, t, m, x, v, q1, q2, q3, q4, q5, q6, q7, q8⟩ := (hI i hiJ).ins
      obtain ⟨l, hl⟩ := (hI i hiJ).lit
      obtain ⟨w', hrun, hm', hg'⟩ := hm.put K q5 he (by omega) hl (hI i hiJ).wf
      have hil : i < listed.size := by have := (hL'.1.2 i hiJ).1; omega
      have hgo : wpAny P .any ops Q (fuel + r) (listed.setIfInBounds i true) a w' := by
        refine ih (listed.setIfInBounds i true) w' (n + 1) _ (by simpa using hs) (fun k hk => ?_) ?_ hm' (by omega) (fun k hkJ hk => ?_) (fun u hu => ?_) ?_
        · rw [getD_set_ne true (fun e => by subst e; simp [hiJ] at hk), ho k hk]
        · have e1 : (J.filter fun j => !(listed.setIfInBounds i true).getD j true) = (J.filter fun j => !listed.getD j true).erase i := by
            rw [List.Nodup.erase_eq_filter (hJ.filter _), List.filter_filter]
            refine List.filter_congr fun k hk => ?_
            by_cases e2 : k = i
            · subst e2; simp [hil]
            · rw [getD_set_ne true (Ne.symm e2)]; simp [e2]
          rw [e1, List.length_erase_of_mem (List.mem_filter.2 ⟨hiJ, by rw [hin]; rfl⟩), hr]; rfl
        · by_cases e1 : k = i
          · subst e1; exact putV_same _ _ _
          · rw [putV_other _ _ (fun e2 => e1 (hinj k hkJ i hiJ e2))]
            rw [getD_set_ne true (Ne.symm e1)] at hk
            exact hf k hkJ hk
        · rw [putV_other _ _ (hu i hiJ)]; exact hf0 u hu
        · exact hg.trans hg'
      have hw : Region.wanted o (yielded ops a.tmps) = true := by unfold Region.wanted; rw [q3]
      unfold wpOp
      simp only [q1, hw, if_true]
      refine .inl ?_
      unfold Oper.wp
      simp [execOp, q4, q6, q7, q8, hrun, Result.andThen, Oper.upon]
      rw [q2]
      exact hgo

theorem none_listed {J : List Nat} {listed : Array Bool} {C : Nat → Prop} (h : (J.all fun j => !listed.getD j true) = true) : ∀ j ∈ J, listed.getD j true = true → C j := fun j hj hl => by
  have := List.all_eq_true.1 h j hj
  rw [hl] at this
  cases this
theorem wpOp_value {P : Program} {ops : Array Oper} {Q : Exit → Act → World → Prop} {i : Nat} {o : Oper} {v : Value} {a : Act} {w w' : World} {K : Act → World → Prop} (hi : ops[i]? = some o) (hg : o.guard = none)
    (hr : (execOp a.eval o).run P w = .ok (.value v) w') (h : K (a.put o.dst v) w') : wpOp P ops Q i K a w := by
  have hw : Region.wanted o (yielded ops a.tmps) = true := by unfold Region.wanted; rw [hg]
  unfold wpOp
  simp only [hi, hw, if_true]
  refine .inl ?_
  unfold Oper.wp
  rw [hr]
  exact h
end Go.Proofs.YtapooehfoihdlaaDoor
