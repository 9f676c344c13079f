
/- A region that draws its order and whose calls lay new memory: one walk, over a class of worlds. No program here. -/
import Derived.Test.YtpfgggjcaogkkaaNums
import Derived.Deep.QuietTactic
import Derived.OrdersIn
import Derived.TacticsIn
namespace Go.Proofs.Ytpfgggjcaogkkaa
open Go.RowKit
set_option linter.unusedVariables false

/-- The worlds of a class. -/
structure Cls (C : World → Prop) where
  w : World
  h : C w

theorem region_class {P : Program} {id : Nat} {Q : Exit → Act → World → Prop} {a : Act} {w : World} {l : List Oper} (C : World → Prop) (hm : P.follows .mixedOrders = true) (hB : Region.lexB .any l.toArray = true) (h0 : C w.drew)
    (h : Nonempty (Cls C) → wpQuiet P l.toArray (fun w' => ∃ n : Cls C, w' = n.w) (fun a' => ∀ w', C w' → Q .normal a' w') l a) : (Code.region id l.toArray true).wp P Q a w :=
  wp_region_quiet (C := fun w' => ∃ n : Cls C, w' = n.w) hm hB ⟨⟨w.drew, h0⟩, rfl⟩ (by
    have := h ⟨⟨w.drew, h0⟩⟩
    have e : (fun a' => ∀ w', C w' → Q .normal a' w') = (fun a' => ∀ w', (∃ n : Cls C, w' = n.w) → Q .normal a' w') := by
      funext a'
      exact propext ⟨fun h w' ⟨n, e⟩ => h w' (by rw [e]; exact n.h), fun h w' hc => h w' ⟨⟨w', hc⟩, rfl⟩⟩
    rw [e] at this
    simpa using this)

/- The same within a round of a range over a function. -/
def noDef (l : List Oper) : Bool := l.all fun o => match o.op with
  | .defer _ => false
  | _ => true
theorem noDef_at {l : List Oper} (h : noDef l = true) {o : Oper} (ho : o ∈ l) (c : Call) : o.op ≠ .defer c := fun e => by
  have := List.all_eq_true.1 h o ho
  rw [e] at this
  cases this

section
variable {P : Program} {C : World → Prop} {r : Nat}
theorem wpIn_of_quietR {o : Oper} {a : Act} {K : Act → Prop} {K' : Act → World → Prop} {Q' : Exit → Act → World → Prop} {w : World} (hdf : ∀ c, o.op ≠ .defer c) (hw : C w) (h : ∀ a w', C w' → K a → K' a w')
    (hh : o.quiet P a C K) : o.wpIn (Fence.wide.inRound r) 0 P a w K' Q' := by
  obtain ⟨v, h1, h2⟩ := hh
  have h3 := h1 w hw
  refine ⟨fun _ _ => trivial, ?_⟩
  show o.uponIn _ 0 P a K' Q' ((o.semAt (some r) a.eval).run P w)
  rw [Oper.semAt_some r a.eval o hdf]
  unfold Oper.quietAt at h3
  generalize (execOp a.eval o).run P w = x at h3
  cases x with
  | halt y w' => exact (show False from h3).elim
  | ok y w' =>
    cases y with
    | value u =>
      obtain ⟨rfl, rfl⟩ := (show w' = w ∧ u = v from h3)
      exact h _ _ hw h2
    | skip =>
      obtain ⟨rfl, rfl⟩ := (show w' = w ∧ v = undef from h3)
      exact h _ _ hw h2
    | enter f args =>
      obtain ⟨rfl, hc⟩ := (show w' = w ∧ Calls P f args w (fun e w'' => e = .returned v ∧ C w'') from h3)
      refine ⟨fun e => (by cases e), (callsIn_wide.2 hc).mono fun e w'' he => ?_⟩
      obtain ⟨rfl, hw''⟩ := he
      exact h _ _ hw'' h2
    | _ => exact (show False from h3).elim

theorem anyIn_of_quietR {l : List Oper} {md : Region.Mode} {Q : Act → Prop} {Q' : Exit → Act → World → Prop} (hdf : noDef l = true) (hQ : ∀ a w, C w → Q a → Q' .normal a w) : ∀ (fuel : Nat) (listed : Array Bool) (a : Act) (w : World), C w →
    wpAnyQ P md l.toArray C Q fuel listed a → wpAnyIn (Fence.wide.inRound r) 0 P md l.toArray Q' fuel listed a w
  | 0, _, _, _, hw, h => ⟨h.1, hQ _ _ hw h.2⟩
  | fuel + 1, listed, a, w, hw, h => by
    refine ⟨fun h0 => hQ _ _ hw (h.1 h0), fun i hi => ?_⟩
    have hq := h.2 i hi
    have ih : ∀ a' w', C w' → wpAnyQ P md l.toArray C Q fuel (listed.setIfInBounds i true) a' → wpAnyIn (Fence.wide.inRound r) 0 P md l.toArray Q' fuel (listed.setIfInBounds i true) a' w' := fun a' w' hw' => anyIn_of_quietR hdf hQ fuel _ a' w' hw'
    unfold qOp at hq
    unfold wpOpIn
    split
    · rename_i ho
      simp only [ho] at hq
      exact ih _ _ hw hq
    · rename_i o ho
      simp only [ho] at hq
      have hmem : o ∈ l := by
        simp at ho
        exact List.mem_of_getElem? ho
      by_cases hwt : Region.wanted o (yielded l.toArray a.tmps) = true
      · simp only [hwt, if_true] at hq ⊢
        exact wpIn_of_quietR (noDef_at hdf hmem) hw ih hq
      · simp only [hwt] at hq ⊢
        exact ⟨fun _ _ => trivial, ih _ _ hw hq⟩
end

theorem regionIn_class {P : Program} {id r : Nat} {Q : Exit → Act → World → Prop} {a : Act} {w : World} {l : List Oper} (C : World → Prop) (hm : P.follows .mixedOrders = true) (hB : Region.lexB .any l.toArray = true) (hdf : noDef l = true) (h0 : C w.drew)
    (h : Nonempty (Cls C) → wpQuiet P l.toArray (fun w' => ∃ n : Cls C, w' = n.w) (fun a' => ∀ w', C w' → Q .normal a' w') l a) : (Code.region id l.toArray true).wpIn (Fence.wide.inRound r) 0 P Q a w := by
  simp only [Region.lexB, Bool.and_eq_true] at hB
  refine wpIn_region_any hm (anyIn_of_quietR (C := fun w' => ∃ n : Cls C, w' = n.w) (Q := fun a' => ∀ w', C w' → Q .normal a' w') hdf (fun a' w' ⟨n, hn⟩ h => h w' (by rw [hn]; exact n.h)) _ _ _ _ ⟨⟨w.drew, h0⟩, rfl⟩ ?_)
  have := wpAnyQ_lex (P := P) (C := fun w' => ∃ n : Cls C, w' = n.w) (md := .any) hB.1 l 0 (Array.replicate l.toArray.size false) a (by simp) (by simpa using hB.2) (h ⟨⟨w.drew, h0⟩⟩)
  simpa using this

/-- An operation that is passed over: its guard says so. -/
theorem wpQuiet_skip {P : Program} {ops : Array Oper} {C : World → Prop} {Q : Act → Prop} {a : Act} {o : Oper} {rest : List Oper} {j : Nat} {b : Bool} {og : Oper} {d : Tmp} (ht : a.tmps[d]? = some (.bool (!b))) (hg : o.guard = some (j, b)) (ho : ops[j]? = some og) (hd : og.dst = some d)
    (hne : o.dst ≠ some d) (h : ∀ a', a' = a.put o.dst undef → a'.tmps[d]? = some (.bool (!b)) → wpQuiet P ops C Q rest a') : wpQuiet P ops C Q (o :: rest) a := by
  have hy : yielded ops a.tmps j = some (!b) := by
    unfold yielded
    simp [ho, hd, ht]
  have hw : Region.wanted o (yielded ops a.tmps) = false := by
    unfold Region.wanted
    simp [hg, hy]
  unfold wpQuiet
  rw [hw]
  refine h _ rfl ?_
  cases he : o.dst with
  | none => exact ht
  | some d' =>
    have : d' ≠ d := fun e => hne (by rw [he, e])
    show (a.tmps.setIfInBounds d' undef)[d]? = _
    rw [Array.getElem?_setIfInBounds_ne this]
    exact ht

theorem hid_act (K : Act → Prop) (a : Act) (h : ∀ A, A = a → K A) : K a := h a rfl

theorem calls_class {P : Program} {f : FuncId} {args : Array Value} {C : World → Prop} {n : Cls C} {v : Value} {R : World → Prop} (h : Calls P f args n.w fun e w' => e = .returned v ∧ R w') (hs : ∀ w', C n.w → R w' → C w') :
    Calls P f args n.w fun e w'' => e = .returned v ∧ ∃ m : Cls C, w'' = m.w := h.mono fun _ w' ⟨he, hr⟩ => ⟨he, ⟨w', hs w' n.h hr⟩, rfl⟩

theorem calls_class_same {P : Program} {f : FuncId} {args : Array Value} {C : World → Prop} {n : Cls C} {v : Value} (h : Calls P f args n.w fun e w' => e = .returned v ∧ w' = n.w) :
    Calls P f args n.w fun e w'' => e = .returned v ∧ ∃ m : Cls C, w'' = m.w := h.mono fun _ w' ⟨he, hr⟩ => ⟨he, n, hr⟩

end Go.Proofs.Ytpfgggjcaogkkaa
