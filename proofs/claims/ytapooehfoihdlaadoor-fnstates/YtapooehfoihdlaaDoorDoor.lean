/- What a law over the table of holdings wants of its frame: the table's cells from what the row lists, a world that meets it, and how the variable reads. -/
import Derived.Test.YtapooehfoihdlaaDoorCards
import Derived.Test.YtapooehfoihdlaaDoorTie
import Derived.Test.YtapooehfoihdlaaDoorHolds
import Derived.ChangeSame
import Derived.ChangeVars
import Derived.JoinedOf
import Derived.RowKit
import Derived.LaidLaws
import Derived.SevenTiedAt
import Derived.Deep.Strs
namespace Go.Proofs.YtapooehfoihdlaaDoor
open Go.ChangeShapes Go.WideShapes Go.RowKit
set_option linter.unusedVariables false

abbrev holdName : String := "loop.example/g00342/impl.holdings"
abbrev holdD {H : Type} : DataW H := .agg [.agg [.lit (.bool false), .lit (.bool false), .lit (.bool false)], .agg [.lit (.bool true), .lit (.bool false), .lit (.bool false)], .agg [.lit (.bool true), .lit (.bool true), .lit (.bool false)], .agg [.lit (.bool true), .lit (.bool true), .lit (.bool true)]]
abbrev holdL : List (String × DataW Unit) := [(holdName, Rows.laid_loop_example_g00342_impl_holdings)]
theorem gHold : Tryd.prog.globalNamed holdName = some 0 := by kernel_rfl
theorem gHoldType : (Tryd.prog.globals[0]?).map (·.type) = some 50 := by kernel_rfl
theorem hold_reads {H : Type} (enc : TypeId × Value → H) (W : World) (sp : Nat → Bool) : DataW.trod enc Tryd.prog W 0 sp true 4 50 holdC.toList = some (holdD, []) := by kernel_rfl

theorem bool_of_trod {H : Type} {enc : TypeId × Value → H} {P : Program} {w : World} {base : Nat} {sp : Nat → Bool} {held : Bool} {fuel : Nat} {t : TypeId} {c : Value} {y : DataW H × List MemPlace}
    (ht : P.underlying t = some .bool) (h : DataW.trod enc P w base sp held fuel t [c] = some y) : ∃ b, c = .bool b ∧ y = (.lit (.bool b), []) := by
  cases fuel with
  | zero => simp [DataW.trod] at h
  | succ fuel =>
    cases c <;> simp [DataW.trod, ht] at h
    exact ⟨_, rfl, h.symm⟩
theorem bools_of_trod {H : Type} {enc : TypeId × Value → H} {P : Program} {w : World} {base : Nat} {sp : Nat → Bool} {held : Bool} {fuel : Nat} {t u : TypeId} {f0 f1 f2 : Field} {x y z : Value} {r : DataW H × List MemPlace} {a b c : Bool}
    (ht : P.underlying t = some (.struct #[f0, f1, f2])) (hu : P.underlying u = some .bool) (h0 : f0.type = u) (h1 : f1.type = u) (h2 : f2.type = u) (o0 : f0.offset = 0) (o1 : f1.offset = 1) (o2 : f2.offset = 2) (hc : P.cellsOf u = 1)
    (h : DataW.trod enc P w base sp held fuel t [x, y, z] = some r) (hr : r.1 = .agg [.lit (.bool a), .lit (.bool b), .lit (.bool c)]) : x = .bool a ∧ y = .bool b ∧ z = .bool c := by
  obtain ⟨y0, y1, y2, n, rfl, _, g0, g1, g2⟩ := Deep.trod_struct3 ht h
  rw [h0, o0, hc] at g0
  rw [h1, o1, hc] at g1
  rw [h2, o2, hc] at g2
  obtain ⟨p0, rfl, rfl⟩ := bool_of_trod hu g0
  obtain ⟨p1, rfl, rfl⟩ := bool_of_trod hu g1
  obtain ⟨p2, rfl, rfl⟩ := bool_of_trod hu g2
  simp at hr
  obtain ⟨rfl, rfl, rfl⟩ := hr
  exact ⟨rfl, rfl, rfl⟩
theorem table_of_trod {H : Type} {enc : TypeId × Value → H} {P : Program} {w : World} {base : Nat} {sp : Nat → Bool} {held : Bool} {fuel : Nat} {T t u : TypeId} {f0 f1 f2 : Field} {cs : List Value} {p : List MemPlace}
    (hT : P.underlying T = some (.array 4 t)) (hcT : P.cellsOf T = 12) (hct : P.cellsOf t = 3)
    (ht : P.underlying t = some (.struct #[f0, f1, f2])) (hu : P.underlying u = some .bool) (h0 : f0.type = u) (h1 : f1.type = u) (h2 : f2.type = u) (o0 : f0.offset = 0) (o1 : f1.offset = 1) (o2 : f2.offset = 2) (hc : P.cellsOf u = 1)
    (h : DataW.trod enc P w base sp held fuel T cs = some (holdD, p)) : cs = holdC.toList := by
  cases fuel with
  | zero => simp [DataW.trod] at h
  | succ fuel =>
    simp only [DataW.trod, hT, hcT, hct] at h
    split at h
    · rename_i hl
      obtain ⟨c0, c1, c2, c3, c4, c5, c6, c7, c8, c9, c10, c11, rfl⟩ : ∃ c0 c1 c2 c3 c4 c5 c6 c7 c8 c9 c10 c11, cs = [c0, c1, c2, c3, c4, c5, c6, c7, c8, c9, c10, c11] := by
        match cs, hl with
        | [c0, c1, c2, c3, c4, c5, c6, c7, c8, c9, c10, c11], _ => exact ⟨c0, c1, c2, c3, c4, c5, c6, c7, c8, c9, c10, c11, rfl⟩
      rw [show List.range 4 = [0, 1, 2, 3] from rfl] at h
      simp only [Option.map_eq_some_iff, List.mapM_cons, List.mapM_nil, Option.bind_eq_bind, Option.bind_eq_some_iff, Option.pure_def, Option.some.injEq] at h
      obtain ⟨xs, ⟨y0, g0, _, ⟨y1, g1, _, ⟨y2, g2, _, ⟨y3, g3, _, rfl, rfl⟩, rfl⟩, rfl⟩, rfl⟩, hx⟩ := h
      simp only [List.map_cons, List.map_nil, Prod.mk.injEq, DataW.agg.injEq, List.cons.injEq, and_true] at hx
      obtain ⟨⟨e0, e1, e2, e3⟩, _⟩ := hx
      obtain ⟨rfl, rfl, rfl⟩ := bools_of_trod ht hu h0 h1 h2 o0 o1 o2 hc g0 e0
      obtain ⟨rfl, rfl, rfl⟩ := bools_of_trod ht hu h0 h1 h2 o0 o1 o2 hc g1 e1
      obtain ⟨rfl, rfl, rfl⟩ := bools_of_trod ht hu h0 h1 h2 o0 o1 o2 hc g2 e2
      obtain ⟨rfl, rfl, rfl⟩ := bools_of_trod ht hu h0 h1 h2 o0 o1 o2 hc g3 e3
      rfl
    · cases h
theorem hold_var {W : World} (h : laidMet Tryd.prog holdL W) : W.var? Tryd.prog holdName = some holdC := by
  obtain ⟨ps, ⟨g, t, cs, fuel, p, q, hg, ht, hvar, hd, _, _⟩, _⟩ := h
  obtain rfl := Option.some.inj (gHold.symm.trans hg)
  obtain rfl := Option.some.inj (gHoldType.symm.trans ht)
  rw [hvar]
  have := table_of_trod Tryd.underlying50 (by kernel_rfl) (by kernel_rfl) Tryd.underlying49 Tryd.underlying4 rfl rfl rfl rfl rfl rfl (by kernel_rfl) hd
  obtain ⟨l⟩ := cs
  rw [show l = holdC.toList from this]
theorem hold_of_var {W : World} (h : W.var? Tryd.prog holdName = some holdC) : Hold W := by
  simp only [World.var?, gHold, Option.bind_some] at h
  split at h
  · rename_i cs t fz e
    cases h
    exact ⟨t, fz, e⟩
  · cases h
theorem var_below {W W' : World} (h : W.var? Tryd.prog holdName = some holdC) (hB : Below W.heap.size W W') : W'.var? Tryd.prog holdName = some holdC := by
  obtain ⟨t, fz, e⟩ := (hold_of_var h).to hB
  simp only [World.var?, gHold, Option.bind_some, e]
theorem vars_hold {H : Type} (enc : TypeId × Value → H) {W : World} (sp : Nat → Bool) (h : W.var? Tryd.prog holdName = some holdC) : DataW.TrodVars enc Tryd.prog W sp [holdName] [holdD] (MemPlace.row ⟨0, 0, none⟩ holdC.size ++ [] ++ []) :=
  ⟨0, 50, holdC, 4, [], [], gHold, gHoldType, h, hold_reads enc W sp, rfl, rfl⟩
theorem vars_one {H : Type} {enc : TypeId × Value → H} {W : World} {gs : List (DataW H)} {q : List MemPlace} (hV : DataW.TrodVars enc Tryd.prog W (fun _ => true) [holdName] gs q) (h : W.var? Tryd.prog holdName = some holdC) : gs = [holdD] := by
  obtain ⟨g, t, cs, fuel, d, p', rfl, hg, ht, hvar, hd, rfl⟩ := trodVars_one hV
  obtain rfl := Option.some.inj (gHold.symm.trans hg)
  obtain rfl := Option.some.inj (gHoldType.symm.trans ht)
  obtain rfl : cs = holdC := Option.some.inj (hvar.symm.trans h)
  obtain ⟨rfl, rfl⟩ := DataW.Trod.unique (v := .agg holdC) ⟨fuel, hd⟩ ⟨4, hold_reads enc W _⟩
  rfl

noncomputable def laidWorld (os : Os) : World :=
  { World.holding Tryd.prog os ⟨#[], #[], []⟩ with heap := (World.holding Tryd.prog os ⟨#[], #[], []⟩).heap.modify 0 fun
      | .cells _ t frozen => .cells holdC t frozen
      | o => o }
theorem laid_row (os : Os) (args : Array Value) : ((laidWorld os).forCall (fun _ _ => 0) ⟨#[], args, []⟩).memory.heap[0]? = some (.cells holdC 50 (0, 0)) := by kernel_rfl
theorem laid_met (os : Os) (args : Array Value) : laidMet Tryd.prog holdL ((laidWorld os).forCall (fun _ _ => 0) ⟨#[], args, []⟩).memory := by
  refine ⟨_, ⟨0, 50, holdC, 8, [], [], by kernel_rfl, by kernel_rfl, by kernel_rfl, by kernel_rfl, rfl, rfl⟩, by decide, fun b off h => ?_⟩
  have h' : MemPlace.cell b off ∈ [MemPlace.cell 0 0, .cell 0 1, .cell 0 2, .cell 0 3, .cell 0 4, .cell 0 5, .cell 0 6, .cell 0 7, .cell 0 8, .cell 0 9, .cell 0 10, .cell 0 11] := h
  have hb : b = 0 := by
    simp at h'
    omega
  subst hb
  refine ⟨⟨_, _, laid_row os args⟩, fun u v hc => ?_⟩
  simp only [World.cell?, laid_row os args] at hc
  simp at h'
  rcases h' with rfl | rfl | rfl | rfl | rfl | rfl | rfl | rfl | rfl | rfl | rfl | rfl <;> simp [holdC] at hc
end Go.Proofs.YtapooehfoihdlaaDoor
