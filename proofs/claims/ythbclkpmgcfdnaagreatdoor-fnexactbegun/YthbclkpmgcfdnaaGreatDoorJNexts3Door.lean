
/- Nexts, Holds, Door. -/
import Derived.Test.YthbclkpmgcfdnaaGreatDoorTurns
import Derived.OwnWalk
import Derived.Test.YthbclkpmgcfdnaaGreatDoorJLists8CacheFacts
import Derived.BigRegion
import Derived.Deep.QuietTactic
import Derived.BigQuiet
import Derived.Test.YthbclkpmgcfdnaaGreatDoorCards
import Derived.Test.YthbclkpmgcfdnaaGreatDoorTie
import Derived.ChangeSame
import Derived.ChangeVars
import Derived.JoinedOf
import Derived.RowKit
import Derived.LaidLaws
import Derived.SevenTiedAt
import Derived.Deep.Strs
/- The contracts of Next, of the program and of its specification. No condition but that the numbers are int64's. -/
namespace Go.Proofs.YthbclkpmgcfdnaaGreatDoor
open Go.ChangeShapes Go.WideShapes Go.RowKit
open Go.Maps (Keyed)
set_option linter.unusedVariables false
def nextV (s e : Int) : Value := .tuple #[.int .i64 ((nextI s e).getD s), .bool (nextI s e).isSome]

set_option maxHeartbeats 400000 in
theorem implNext_any (s e : Int) (w : World) (hs : (Lit.int .i64 s).wf = true) (he : (Lit.int .i64 e).wf = true) :
    Calls Tryz.prog 160 #[.int .i64 s, .int .i64 e] w fun x w' => x = .returned (nextV s e) ∧ Below w.heap.size w w' := by
  obtain ⟨l, hl⟩ := tk_key hs he
  unfold nextV
  obtain ⟨o, ho⟩ : ∃ o, nextI s e = o := ⟨_, rfl⟩
  rw [ho]
  cases o
  all_goals
    simp only [Option.getD_none, Option.isSome_none, Option.getD_some, Option.isSome_some]
    go_enter Tryz.func160, Tryz.ntmps160
    go_wp2_with fail
    refine (turns_any _).mono ?_
    rintro _ w1 ⟨b, n, f, rfl, hb, hm, hf, B⟩
    have hlk := hm.look_ok turnKeyed Tryz.underlying205 Tryz.underlying2 (zero2 _) hl
    rw [hf, ho] at hlk
    simp only [Option.getD_none, Option.isSome_none, Option.getD_some, Option.isSome_some] at hlk
    go_wp2
    go_ret2
    exact ⟨rfl, B⟩

end Go.Proofs.YthbclkpmgcfdnaaGreatDoor
/- The table of what states say of one's own, as it lies in memory; the contracts of Asks, of the program and of its specification, and of how many hold a line. -/
namespace Go.Proofs.YthbclkpmgcfdnaaGreatDoor
open Go.ChangeShapes Go.WideShapes Go.RowKit
open Go.Maps (Keyed)
set_option linter.unusedVariables false
def holdC : Array Value := #[.bool false, .bool false, .bool false, .bool true, .bool false, .bool false, .bool true, .bool true, .bool false, .bool true, .bool true, .bool true]
/-- The table lies in its block. -/
def Hold (w : World) : Prop := ∃ t fz, w.heap[0]? = some (.cells holdC t fz)
theorem Hold.lt {w : World} (h : Hold w) : 0 < w.heap.size := by obtain ⟨t, fz, h⟩ := h; exact (Array.getElem?_eq_some_iff.1 h).1
theorem Hold.below {w w' : World} {m : Nat} (h : Hold w) (hB : Below m w w') (hm : 0 < m) : Hold w' := by
  obtain ⟨t, fz, h⟩ := h
  exact ⟨t, fz, (hB.block 0 hm).trans h⟩
theorem Hold.to {w w' : World} (h : Hold w) (hB : Below w.heap.size w w') : Hold w' := h.below hB h.lt
theorem Hold.grown {w w' : World} {b : Nat} (h : Hold w) (hg : w.grownBy w' (some b)) (hb : 0 < b) : Hold w' := by
  have hl := h.lt
  obtain ⟨t, fz, h⟩ := h
  exact ⟨t, fz, (hg.block 0 hl (by simp; omega)).trans h⟩
theorem Hold.drewN {w : World} (h : Hold w) (q : Nat) : Hold (w.drewN q) := h
theorem Hold.cells {w : World} (h : Hold w) :
    w.cell? ⟨0, 0, none⟩ = some (.bool false) ∧ w.cell? ⟨0, 1, none⟩ = some (.bool false) ∧ w.cell? ⟨0, 2, none⟩ = some (.bool false) ∧
    w.cell? ⟨0, 3, none⟩ = some (.bool true) ∧ w.cell? ⟨0, 4, none⟩ = some (.bool false) ∧ w.cell? ⟨0, 5, none⟩ = some (.bool false) ∧
    w.cell? ⟨0, 6, none⟩ = some (.bool true) ∧ w.cell? ⟨0, 7, none⟩ = some (.bool true) ∧ w.cell? ⟨0, 8, none⟩ = some (.bool false) ∧
    w.cell? ⟨0, 9, none⟩ = some (.bool true) ∧ w.cell? ⟨0, 10, none⟩ = some (.bool true) ∧ w.cell? ⟨0, 11, none⟩ = some (.bool true) := by
  obtain ⟨t, fz, h⟩ := h
  refine ⟨?_, ?_, ?_, ?_, ?_, ?_, ?_, ?_, ?_, ?_, ?_, ?_⟩ <;> (rw [cell_of_row w 0 _ _ _ _ h]; rfl)
abbrev hk (a b c : Bool) : Value := .agg #[.bool a, .bool b, .bool c]
def readI (s : Int) : Int := if s = 0 then 1 else 0
def writeI (s : Int) : Int := if s < 2 then 2 else 0
def asksI (s : Int) (wr : Bool) : Int := if betw s 0 3 then (if wr then writeI s else readI s) else -1
theorem state4 {s : Int} (h : betw s 0 3 = true) : s = 0 ∨ s = 1 ∨ s = 2 ∨ s = 3 := by simp [betw] at h; omega

set_option maxHeartbeats 400000 in
theorem asksToRead_any (s : Int) (w : World) (h : Hold w) (hs : betw s 0 3 = true) :
    Calls Tryz.prog 155 #[.int .i64 s] w fun x w' => x = .returned (.int .i64 (readI s)) ∧ w' = w := by
  obtain ⟨c0, c1, c2, c3, c4, c5, c6, c7, c8, c9, c10, c11⟩ := h.cells
  rcases state4 hs with rfl | rfl | rfl | rfl
  all_goals
    clear hs
    go_enter Tryz.func155, Tryz.ntmps155
    go_wp2
    go_ret
    exact ⟨rfl, rfl⟩

set_option maxHeartbeats 400000 in
theorem asksToWrite_any (s : Int) (w : World) (h : Hold w) (hs : betw s 0 3 = true) :
    Calls Tryz.prog 154 #[.int .i64 s] w fun x w' => x = .returned (.int .i64 (writeI s)) ∧ w' = w := by
  obtain ⟨c0, c1, c2, c3, c4, c5, c6, c7, c8, c9, c10, c11⟩ := h.cells
  rcases state4 hs with rfl | rfl | rfl | rfl
  all_goals
    clear hs
    go_enter Tryz.func154, Tryz.ntmps154
    go_wp2
    go_ret
    exact ⟨rfl, rfl⟩
set_option maxHeartbeats 400000 in
theorem stateOk_any (s : Int) (w : World) :
    Calls Tryz.prog 153 #[.int .i64 s] w fun x w' => x = .returned (.bool (betw s 0 3)) ∧ w' = w := by
  go_enter Tryz.func153, Tryz.ntmps153
  go_wp2_with fail
  refine (between_any _ _ _ _).mono ?_
  rintro _ w1 ⟨rfl, rfl⟩
  go_wp2
  go_ret
  exact ⟨rfl, rfl⟩

set_option maxHeartbeats 400000 in
theorem implAsks_any (s : Int) (wr : Bool) (w : World) (h : Hold w) :
    Calls Tryz.prog 111 #[.int .i64 s, .bool wr] w fun x w' => x = .returned (.int .i64 (asksI s wr)) ∧ w' = w := by
  by_cases hs : betw s 0 3 = true
  · cases wr
    · go_enter Tryz.func111, Tryz.ntmps111
      go_wp2_with fail
      refine (stateOk_any _ _).mono ?_
      rintro _ w1 ⟨rfl, rfl⟩
      rw [hs]
      go_wp2_with fail
      refine (asksToRead_any _ _ h hs).mono ?_
      rintro _ w1 ⟨rfl, rfl⟩
      go_wp2
      go_ret
      exact ⟨by simp [asksI, hs], rfl⟩
    · go_enter Tryz.func111, Tryz.ntmps111
      go_wp2_with fail
      refine (stateOk_any _ _).mono ?_
      rintro _ w1 ⟨rfl, rfl⟩
      rw [hs]
      go_wp2_with fail
      refine (asksToWrite_any _ _ h hs).mono ?_
      rintro _ w1 ⟨rfl, rfl⟩
      go_wp2
      go_ret
      exact ⟨by simp [asksI, hs], rfl⟩
  · have hs' : betw s 0 3 = false := by simpa using hs
    go_enter Tryz.func111, Tryz.ntmps111
    go_wp2_with fail
    refine (stateOk_any _ _).mono ?_
    rintro _ w1 ⟨rfl, rfl⟩
    rw [hs']
    go_wp2
    go_ret
    exact ⟨by simp [asksI, hs'], rfl⟩

set_option maxHeartbeats 400000 in
theorem specAsks_any (s : Int) (wr : Bool) (w : World) :
    Calls Tryz.prog 26 #[.int .i64 s, .bool wr] w fun x w' => x = .returned (.int .i64 (asksI s wr)) ∧ w' = w := by
  by_cases hs : betw s 0 3 = true
  · rcases state4 hs with rfl | rfl | rfl | rfl
    all_goals
      cases wr
      all_goals
        go_enter Tryz.func26, Tryz.ntmps26
        go_wp2_with fail
        refine (l1In_any _ _ _ _).mono ?_
        rintro _ w1 ⟨rfl, rfl⟩
        rw [hs]
        go_wp2
        go_ret
        exact ⟨rfl, rfl⟩
  · have hs' : betw s 0 3 = false := by simpa using hs
    go_enter Tryz.func26, Tryz.ntmps26
    go_wp2_with fail
    refine (l1In_any _ _ _ _).mono ?_
    rintro _ w1 ⟨rfl, rfl⟩
    rw [hs']
    go_wp2
    go_ret
    exact ⟨by simp [asksI, hs'], rfl⟩
end Go.Proofs.YthbclkpmgcfdnaaGreatDoor
/- What a law over the table of holdings wants of its frame: the table's cells from what the row lists, a world that meets it, and how the variable reads. -/
namespace Go.Proofs.YthbclkpmgcfdnaaGreatDoor
open Go.ChangeShapes Go.WideShapes Go.RowKit
set_option linter.unusedVariables false
abbrev holdName : String := "loop.example/g00342/impl.holdings"
abbrev holdD {H : Type} : DataW H := .agg [.agg [.lit (.bool false), .lit (.bool false), .lit (.bool false)], .agg [.lit (.bool true), .lit (.bool false), .lit (.bool false)], .agg [.lit (.bool true), .lit (.bool true), .lit (.bool false)], .agg [.lit (.bool true), .lit (.bool true), .lit (.bool true)]]
abbrev holdL : List (String × DataW Unit) := [(holdName, Rows.laid_loop_example_g00342_impl_holdings)]
theorem gHold : Tryz.prog.globalNamed holdName = some 0 := by kernel_rfl
theorem gHoldType : (Tryz.prog.globals[0]?).map (·.type) = some 199 := by kernel_rfl
theorem hold_reads {H : Type} (enc : TypeId × Value → H) (W : World) (sp : Nat → Bool) : DataW.trod enc Tryz.prog W 0 sp true 4 199 holdC.toList = some (holdD, []) := by kernel_rfl
theorem bool_of_trod {H : Type} {enc : TypeId × Value → H} {P : Program} {w : World} {base : Nat} {sp : Nat → Bool} {held : Bool} {fuel : Nat} {t : TypeId} {c : Value} {y : DataW H × List MemPlace}
    (ht : P.underlying t = some .bool) (h : DataW.trod enc P w base sp held fuel t [c] = some y) : ∃ b, c = .bool b ∧ y = (.lit (.bool b), []) := by
  cases fuel with
  | zero => simp [DataW.trod] at h
  | succ fuel =>
    cases c <;> simp [DataW.trod, ht] at h
    exact ⟨_, rfl, h.symm⟩
theorem bools_of_trod {H : Type} {enc : TypeId × Value → H} {P : Program} {w : World} {base : Nat} {sp : Nat → Bool} {held : Bool} {fuel : Nat} {t u : TypeId} {f0 f1 f2 : Field} {x y z : Value} {r : DataW H × List MemPlace} {a b c : Bool}
    (ht : P.underlying t = some (.struct #[f0, f1, f2])) (hu : P.underlying u = some .bool) (h0 : f0.type = u) (h1 : f1.type = u) (h2 : f2.type = u) (o0 : f0.offset = 0) (o1 : f1.offset = 1) (o2 : f2.offset = 2) (hc : P.cellsOf u = 1)
    (h : DataW.trod enc P w base sp held fuel t [x, y, z] = some r) (hr : r.1 = .agg [.lit (.bool a), .lit (.bool b), .lit (.bool c)]) : x = .bool a ∧ y = .bool b ∧ z = .bool c := by
  obtain ⟨y0, y1, y2, n, rfl, _, g0, g1, g2⟩ := Deep.trod_struct3 ht h
  rw [h0, o0, hc] at g0
  rw [h1, o1, hc] at g1
  rw [h2, o2, hc] at g2
  obtain ⟨p0, rfl, rfl⟩ := bool_of_trod hu g0
  obtain ⟨p1, rfl, rfl⟩ := bool_of_trod hu g1
  obtain ⟨p2, rfl, rfl⟩ := bool_of_trod hu g2
  simp at hr
  obtain ⟨rfl, rfl, rfl⟩ := hr
  exact ⟨rfl, rfl, rfl⟩
theorem table_of_trod {H : Type} {enc : TypeId × Value → H} {P : Program} {w : World} {base : Nat} {sp : Nat → Bool} {held : Bool} {fuel : Nat} {T t u : TypeId} {f0 f1 f2 : Field} {cs : List Value} {p : List MemPlace}
    (hT : P.underlying T = some (.array 4 t)) (hcT : P.cellsOf T = 12) (hct : P.cellsOf t = 3)
    (ht : P.underlying t = some (.struct #[f0, f1, f2])) (hu : P.underlying u = some .bool) (h0 : f0.type = u) (h1 : f1.type = u) (h2 : f2.type = u) (o0 : f0.offset = 0) (o1 : f1.offset = 1) (o2 : f2.offset = 2) (hc : P.cellsOf u = 1)
    (h : DataW.trod enc P w base sp held fuel T cs = some (holdD, p)) : cs = holdC.toList := by
  cases fuel with
  | zero => simp [DataW.trod] at h
  | succ fuel =>
    simp only [DataW.trod, hT, hcT, hct] at h
    split at h
    · rename_i hl
      obtain ⟨c0, c1, c2, c3, c4, c5, c6, c7, c8, c9, c10, c11, rfl⟩ : ∃ c0 c1 c2 c3 c4 c5 c6 c7 c8 c9 c10 c11, cs = [c0, c1, c2, c3, c4, c5, c6, c7, c8, c9, c10, c11] := by
        match cs, hl with
        | [c0, c1, c2, c3, c4, c5, c6, c7, c8, c9, c10, c11], _ => exact ⟨c0, c1, c2, c3, c4, c5, c6, c7, c8, c9, c10, c11, rfl⟩
      rw [show List.range 4 = [0, 1, 2, 3] from rfl] at h
      simp only [Option.map_eq_some_iff, List.mapM_cons, List.mapM_nil, Option.bind_eq_bind, Option.bind_eq_some_iff, Option.pure_def, Option.some.injEq] at h
      obtain ⟨xs, ⟨y0, g0, _, ⟨y1, g1, _, ⟨y2, g2, _, ⟨y3, g3, _, rfl, rfl⟩, rfl⟩, rfl⟩, rfl⟩, hx⟩ := h
      simp only [List.map_cons, List.map_nil, Prod.mk.injEq, DataW.agg.injEq, List.cons.injEq, and_true] at hx
      obtain ⟨⟨e0, e1, e2, e3⟩, _⟩ := hx
      obtain ⟨rfl, rfl, rfl⟩ := bools_of_trod ht hu h0 h1 h2 o0 o1 o2 hc g0 e0
      obtain ⟨rfl, rfl, rfl⟩ := bools_of_trod ht hu h0 h1 h2 o0 o1 o2 hc g1 e1
      obtain ⟨rfl, rfl, rfl⟩ := bools_of_trod ht hu h0 h1 h2 o0 o1 o2 hc g2 e2
      obtain ⟨rfl, rfl, rfl⟩ := bools_of_trod ht hu h0 h1 h2 o0 o1 o2 hc g3 e3
      rfl
    · cases h
theorem hold_var {W : World} (h : laidMet Tryz.prog holdL W) : W.var? Tryz.prog holdName = some holdC := by
  obtain ⟨ps, ⟨g, t, cs, fuel, p, q, hg, ht, hvar, hd, _, _⟩, _⟩ := h
  obtain rfl := Option.some.inj (gHold.symm.trans hg)
  obtain rfl := Option.some.inj (gHoldType.symm.trans ht)
  rw [hvar]
  have := table_of_trod Tryz.underlying199 (by kernel_rfl) (by kernel_rfl) Tryz.underlying198 Tryz.underlying4 rfl rfl rfl rfl rfl rfl (by kernel_rfl) hd
  obtain ⟨l⟩ := cs
  rw [show l = holdC.toList from this]
theorem hold_of_var {W : World} (h : W.var? Tryz.prog holdName = some holdC) : Hold W := by
  simp only [World.var?, gHold, Option.bind_some] at h
  split at h
  · rename_i cs t fz e
    cases h
    exact ⟨t, fz, e⟩
  · cases h
theorem var_below {W W' : World} (h : W.var? Tryz.prog holdName = some holdC) (hB : Below W.heap.size W W') : W'.var? Tryz.prog holdName = some holdC := by
  obtain ⟨t, fz, e⟩ := (hold_of_var h).to hB
  simp only [World.var?, gHold, Option.bind_some, e]
theorem vars_hold {H : Type} (enc : TypeId × Value → H) {W : World} (sp : Nat → Bool) (h : W.var? Tryz.prog holdName = some holdC) : DataW.TrodVars enc Tryz.prog W sp [holdName] [holdD] (MemPlace.row ⟨0, 0, none⟩ holdC.size ++ [] ++ []) :=
  ⟨0, 199, holdC, 4, [], [], gHold, gHoldType, h, hold_reads enc W sp, rfl, rfl⟩
theorem vars_one {H : Type} {enc : TypeId × Value → H} {W : World} {gs : List (DataW H)} {q : List MemPlace} (hV : DataW.TrodVars enc Tryz.prog W (fun _ => true) [holdName] gs q) (h : W.var? Tryz.prog holdName = some holdC) : gs = [holdD] := by
  obtain ⟨g, t, cs, fuel, d, p', rfl, hg, ht, hvar, hd, rfl⟩ := trodVars_one hV
  obtain rfl := Option.some.inj (gHold.symm.trans hg)
  obtain rfl := Option.some.inj (gHoldType.symm.trans ht)
  obtain rfl : cs = holdC := Option.some.inj (hvar.symm.trans h)
  obtain ⟨rfl, rfl⟩ := DataW.Trod.unique (v := .agg holdC) ⟨fuel, hd⟩ ⟨4, hold_reads enc W _⟩
  rfl
noncomputable def laidWorld (os : Os) : World :=
  { World.holding Tryz.prog os ⟨#[], #[], []⟩ with heap := (World.holding Tryz.prog os ⟨#[], #[], []⟩).heap.modify 0 fun
      | .cells _ t frozen => .cells holdC t frozen
      | o => o }
theorem laid_row (os : Os) (args : Array Value) : ((laidWorld os).forCall (fun _ _ => 0) ⟨#[], args, []⟩).memory.heap[0]? = some (.cells holdC 199 (0, 0)) := by kernel_rfl
set_option maxRecDepth 100000 in
theorem laid_met (os : Os) (args : Array Value) : laidMet Tryz.prog holdL ((laidWorld os).forCall (fun _ _ => 0) ⟨#[], args, []⟩).memory := by
  refine ⟨_, ⟨0, 199, holdC, 8, [], [], by kernel_rfl, by kernel_rfl, by kernel_rfl, by kernel_rfl, rfl, rfl⟩, by decide, fun b off h => ?_⟩
  have h' : MemPlace.cell b off ∈ [MemPlace.cell 0 0, .cell 0 1, .cell 0 2, .cell 0 3, .cell 0 4, .cell 0 5, .cell 0 6, .cell 0 7, .cell 0 8, .cell 0 9, .cell 0 10, .cell 0 11] := h
  have hb : b = 0 := by
    simp at h'
    omega
  subst hb
  refine ⟨⟨_, _, laid_row os args⟩, fun u v hc => ?_⟩
  simp only [World.cell?, laid_row os args] at hc
  simp at h'
  rcases h' with rfl | rfl | rfl | rfl | rfl | rfl | rfl | rfl | rfl | rfl | rfl | rfl <;> simp [holdC] at hc
end Go.Proofs.YthbclkpmgcfdnaaGreatDoor
