
/- Turns. -/
import Derived.Test.YthbclkpmgcfdnaaGreatDoorJLists8CacheFacts
import Derived.Test.YthbclkpmgcfdnaaGreatDoorProg
import Derived.WalkKit
import Derived.RowKit
import Derived.KernelRfl
import Derived.Deep.Cut
import Derived.Deep.CutBlock
/- The contracts of Next, of the program (a map whose keys are structs, laid in whatever order) and of its specification. No condition but that the numbers are int64's. -/
namespace Go.Proofs.YthbclkpmgcfdnaaGreatDoor
open Go.ChangeShapes Go.WideShapes Go.RowKit
open Go.Maps (Keyed)
set_option linter.unusedVariables false
theorem laidOutB_ok : laidOutB Tryz.prog = true := by kernel_rfl
theorem turnRow : (208 : TypeId) < Tryz.prog.types.size := of_decide_eq_true (by kernel_rfl)
theorem turnWide : (match Tryz.prog.underlying 208 with | some (.array _ _) | some (.struct _) => true | _ => false) = true := by kernel_rfl
set_option maxRecDepth 100000 in
theorem turnLaw : WideMaps.KeyLaw Tryz.prog 208 := deep_law_laid laidOutB_ok (m := 2) (by omega) turnRow (by kernel_rfl) turnWide
theorem turnKeyed : Keyed Tryz.prog 208 := Keyed.of_law turnLaw
theorem zero2 (w : World) : (zeroValue 2).run Tryz.prog w = .ok (.int .i64 0) w := by kernel_rfl
abbrev tk (s e : Int) : Value := .agg #[.int .i64 s, .int .i64 e]
theorem key_two {P : Program} {t u : TypeId} {f0 f1 : Field} (ht : P.underlying t = some (.struct #[f0, f1])) (hu : P.underlying u = some (.int .i64)) (h0 : f0.type = u) (h1 : f1.type = u) (o0 : f0.offset = 0) (o1 : f1.offset = 1)
    (n0 : (f0.name != "_") = true) (n1 : (f1.name != "_") = true) (hc : P.cellsOf t = 2) (hcu : P.cellsOf u = 1) (hk : P.keyType t = true) (hsz : 0 < P.types.size) {s e : Int} (hs : (Lit.int .i64 s).wf = true) (he : (Lit.int .i64 e).wf = true) : ∃ l, keyOf P t (tk s e) = some l := by
  have h2 : (tk s e).formed P t = true := by simp [Value.formed, ht, hc]
  obtain ⟨m, hm⟩ : ∃ m, P.types.size = m + 1 := ⟨P.types.size - 1, by omega⟩
  have h3 : P.keyLits (P.types.size + 1) t (tk s e).cells.toList = some [.int .i64 s, .int .i64 e] := by
    rw [hm]
    simp only [Program.keyLits, ht, Value.cells]
    simp [hc, n0, n1, h0, h1, o0, o1, hcu, hu, hs, he]
  refine ⟨.string (keyBytes [.int .i64 s, .int .i64 e]), ?_⟩
  unfold keyOf
  rw [ht]
  simp only [hk, h2, h3, Bool.and_self, if_true, Option.map_some]
theorem tk_key {s e : Int} (hs : (Lit.int .i64 s).wf = true) (he : (Lit.int .i64 e).wf = true) : ∃ l, keyOf Tryz.prog 208 (tk s e) = some l :=
  key_two Tryz.underlying208 Tryz.underlying2 rfl rfl rfl rfl (by decide) (by decide) (by kernel_rfl) (by kernel_rfl) (by kernel_rfl) (of_decide_eq_true (by kernel_rfl)) hs he
def nextI (s e : Int) : Option Int :=
  if s = 1 then (if e = 1 then some 1 else if e = 4 ∨ e = 5 then some 0 else none)
  else if s = 2 ∨ s = 3 then (if e = 1 then some s else if e = 2 then some 3 else if e = 3 then some 1 else if e = 4 ∨ e = 5 then some 0 else none) else none
def turnJ : List Nat := [2, 4, 6, 8, 10, 12, 14, 16, 18, 20, 22, 24, 26]
def turnKey : Nat → Value
  | 2 => tk 1 1
  | 4 => tk 1 4
  | 6 => tk 1 5
  | 8 => tk 2 1
  | 10 => tk 2 2
  | 12 => tk 2 3
  | 14 => tk 2 4
  | 16 => tk 2 5
  | 18 => tk 3 1
  | 20 => tk 3 2
  | 22 => tk 3 3
  | 24 => tk 3 4
  | 26 => tk 3 5
  | _ => .bool false
def turnVal : Nat → Int
  | 2 => 1
  | 4 => 0
  | 6 => 0
  | 8 => 2
  | 10 => 3
  | 12 => 1
  | 14 => 0
  | 16 => 0
  | 18 => 3
  | 20 => 3
  | 22 => 1
  | 24 => 0
  | 26 => 0
  | _ => 0
def unTk : Value → Int × Int
  | .agg cs => (match cs.toList with | [.int _ a, .int _ b] => (a, b) | _ => (0, 0))
  | _ => (0, 0)
theorem turn_all {f : Value → Option Int} (h1 : ∀ j ∈ turnJ, f (turnKey j) = some (turnVal j)) (h2 : ∀ v, (∀ j ∈ turnJ, v ≠ turnKey j) → f v = none) (s e : Int) : f (tk s e) = nextI s e := by
  by_cases c2 : s = 1 ∧ e = 1
  · obtain ⟨rfl, rfl⟩ := c2; exact h1 2 (by decide)
  by_cases c4 : s = 1 ∧ e = 4
  · obtain ⟨rfl, rfl⟩ := c4; exact h1 4 (by decide)
  by_cases c6 : s = 1 ∧ e = 5
  · obtain ⟨rfl, rfl⟩ := c6; exact h1 6 (by decide)
  by_cases c8 : s = 2 ∧ e = 1
  · obtain ⟨rfl, rfl⟩ := c8; exact h1 8 (by decide)
  by_cases c10 : s = 2 ∧ e = 2
  · obtain ⟨rfl, rfl⟩ := c10; exact h1 10 (by decide)
  by_cases c12 : s = 2 ∧ e = 3
  · obtain ⟨rfl, rfl⟩ := c12; exact h1 12 (by decide)
  by_cases c14 : s = 2 ∧ e = 4
  · obtain ⟨rfl, rfl⟩ := c14; exact h1 14 (by decide)
  by_cases c16 : s = 2 ∧ e = 5
  · obtain ⟨rfl, rfl⟩ := c16; exact h1 16 (by decide)
  by_cases c18 : s = 3 ∧ e = 1
  · obtain ⟨rfl, rfl⟩ := c18; exact h1 18 (by decide)
  by_cases c20 : s = 3 ∧ e = 2
  · obtain ⟨rfl, rfl⟩ := c20; exact h1 20 (by decide)
  by_cases c22 : s = 3 ∧ e = 3
  · obtain ⟨rfl, rfl⟩ := c22; exact h1 22 (by decide)
  by_cases c24 : s = 3 ∧ e = 4
  · obtain ⟨rfl, rfl⟩ := c24; exact h1 24 (by decide)
  by_cases c26 : s = 3 ∧ e = 5
  · obtain ⟨rfl, rfl⟩ := c26; exact h1 26 (by decide)
  rw [h2 _ (by
    intro j hj
    simp only [turnJ, List.mem_cons, List.not_mem_nil, or_false] at hj
    rcases hj with rfl | rfl | rfl | rfl | rfl | rfl | rfl | rfl | rfl | rfl | rfl | rfl | rfl <;> simp only [turnKey, tk, ne_eq, Value.agg.injEq, Array.mk.injEq, List.cons.injEq, Value.int.injEq, true_and, and_true] <;> assumption)]
  unfold nextI
  by_cases hs1 : s = 1
  · rw [if_pos hs1]
    repeat' split
    all_goals first | rfl | omega
  · rw [if_neg hs1]
    repeat' split
    all_goals first | rfl | omega

set_option maxRecDepth 20000 in
set_option maxHeartbeats 2000000 in
theorem turns_any (w : World) :
    Calls Tryz.prog 192 #[] w fun e w' => ∃ b n f, e = .returned (.map (some b)) ∧ w.heap.size ≤ b ∧ MapV Tryz.prog 208 2 w' b n f ∧ (∀ s e, f (tk s e) = nextI s e) ∧ Below w.heap.size w w' := by
  go_enter Tryz.func192, Tryz.ntmps192
  go_upto_region 1 with fail
  refine wp_region_any (by kernel_rfl) ?_
  refine wpAny_take (i := 1) (v := tk 1 1) rfl (by kernel_rfl) (by kernel_rfl) (by kernel_rfl) (fun _ _ _ h => h) (.inl ⟨rfl, fun _ => by kernel_rfl⟩) ?_
  refine wpAny_take (i := 3) (v := tk 1 4) rfl (by kernel_rfl) (by kernel_rfl) (by kernel_rfl) (fun _ _ _ h => h) (.inl ⟨rfl, fun _ => by kernel_rfl⟩) ?_
  refine wpAny_take (i := 5) (v := tk 1 5) rfl (by kernel_rfl) (by kernel_rfl) (by kernel_rfl) (fun _ _ _ h => h) (.inl ⟨rfl, fun _ => by kernel_rfl⟩) ?_
  refine wpAny_take (i := 7) (v := tk 2 1) rfl (by kernel_rfl) (by kernel_rfl) (by kernel_rfl) (fun _ _ _ h => h) (.inl ⟨rfl, fun _ => by kernel_rfl⟩) ?_
  refine wpAny_take (i := 9) (v := tk 2 2) rfl (by kernel_rfl) (by kernel_rfl) (by kernel_rfl) (fun _ _ _ h => h) (.inl ⟨rfl, fun _ => by kernel_rfl⟩) ?_
  refine wpAny_take (i := 11) (v := tk 2 3) rfl (by kernel_rfl) (by kernel_rfl) (by kernel_rfl) (fun _ _ _ h => h) (.inl ⟨rfl, fun _ => by kernel_rfl⟩) ?_
  refine wpAny_take (i := 13) (v := tk 2 4) rfl (by kernel_rfl) (by kernel_rfl) (by kernel_rfl) (fun _ _ _ h => h) (.inl ⟨rfl, fun _ => by kernel_rfl⟩) ?_
  refine wpAny_take (i := 15) (v := tk 2 5) rfl (by kernel_rfl) (by kernel_rfl) (by kernel_rfl) (fun _ _ _ h => h) (.inl ⟨rfl, fun _ => by kernel_rfl⟩) ?_
  refine wpAny_take (i := 17) (v := tk 3 1) rfl (by kernel_rfl) (by kernel_rfl) (by kernel_rfl) (fun _ _ _ h => h) (.inl ⟨rfl, fun _ => by kernel_rfl⟩) ?_
  refine wpAny_take (i := 19) (v := tk 3 2) rfl (by kernel_rfl) (by kernel_rfl) (by kernel_rfl) (fun _ _ _ h => h) (.inl ⟨rfl, fun _ => by kernel_rfl⟩) ?_
  refine wpAny_take (i := 21) (v := tk 3 3) rfl (by kernel_rfl) (by kernel_rfl) (by kernel_rfl) (fun _ _ _ h => h) (.inl ⟨rfl, fun _ => by kernel_rfl⟩) ?_
  refine wpAny_take (i := 23) (v := tk 3 4) rfl (by kernel_rfl) (by kernel_rfl) (by kernel_rfl) (fun _ _ _ h => h) (.inl ⟨rfl, fun _ => by kernel_rfl⟩) ?_
  refine wpAny_take (i := 25) (v := tk 3 5) rfl (by kernel_rfl) (by kernel_rfl) (by kernel_rfl) (fun _ _ _ h => h) (.inl ⟨rfl, fun _ => by kernel_rfl⟩) ?_
  refine wpAny_all (rs := [0]) (by kernel_rfl) (by simp) fun i hi => ?_
  obtain rfl : i = 0 := by simpa using hi
  refine wpOp_value rfl rfl (v := .map (some w.heap.size)) (w' := w.drew.alloc (.map #[] 0)) rfl ?_
  refine wpAny_inserts (J := turnJ) (listed1 := #[true, true, true, true, true, true, true, true, true, true, true, true, true, true, true, true, true, true, true, true, true, true, true, true, true, true, true, false, false]) (key := turnKey) (val := turnVal) (k := 208) (e := 2) (b := w.heap.size) (W := w.drew.alloc (.map #[] 0)) (f0 := fun _ => none) (n0 := 0) (fuel := 2)
    (by kernel_rfl) (by decide) (by kernel_rfl) (by kernel_rfl) ?ins turnKeyed Tryz.underlying2 ?inj (by decide) ?fin 13 _ _ 0 (fun _ => none) rfl (fun _ _ => rfl) (by kernel_rfl) (mapV_made w.drew _ _ _) (by decide) ?none (fun _ _ => rfl) ⟨rfl, rfl, rfl, Nat.le_refl _, fun _ _ _ => rfl⟩
  case ins =>
    intro j hj
    simp only [turnJ, List.mem_cons, List.not_mem_nil, or_false] at hj
    rcases hj with rfl | rfl | rfl | rfl | rfl | rfl | rfl | rfl | rfl | rfl | rfl | rfl | rfl
    all_goals exact ⟨⟨_, _, _, _, _, rfl, rfl, rfl, rfl, Tryz.underlying205, rfl, rfl, rfl⟩, tk_key (by decide) (by decide), by decide⟩
  case inj =>
    intro i hi j hj h
    exact (show ∀ i ∈ turnJ, ∀ j ∈ turnJ, unTk (turnKey i) = unTk (turnKey j) → i = j by decide) i hi j hj (congrArg unTk h)
  case none =>
    exact none_listed (by kernel_rfl)
  case fin =>
    intro w1 n f hm hn h1 h2 hg
    refine wpAny_take (i := 27) (v := .map (some w.heap.size)) rfl (by kernel_rfl) (by kernel_rfl) (by kernel_rfl) (fun _ _ _ h => h) (.inl ⟨rfl, fun _ => by kernel_rfl⟩) ?_
    refine wpAny_take (i := 28) (v := .map (some w.heap.size)) rfl (by kernel_rfl) (by kernel_rfl) (by kernel_rfl) (fun _ _ _ h => h) (.inl ⟨rfl, fun _ => by kernel_rfl⟩) ?_
    refine wpAny_done (by kernel_rfl) ?_ 0
    go_wp2
    go_ret
    exact ⟨_, n, f, rfl, Nat.le_refl _, hm, turn_all h1 h2, ((Below.refl w.heap.size w).drew.alloc (Nat.le_refl _) _).grown hg (by simp) (fun j hj => by cases hj; exact Nat.le_refl _)⟩
end Go.Proofs.YthbclkpmgcfdnaaGreatDoor
