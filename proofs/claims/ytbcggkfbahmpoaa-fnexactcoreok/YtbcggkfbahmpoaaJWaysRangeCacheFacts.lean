import Derived.Test.YtbcggkfbahmpoaaJLinesBoxesAppGenOwned
import Derived.Test.YtbcggkfbahmpoaaJOwn5OpensBaseClassesBits
import Derived.Test.YtbcggkfbahmpoaaJListsOwnNumsCopies
import Derived.RangeFuncNested
import Derived.RangeFuncBound
import Derived.RangeFuncLeaves
import Derived.Shelf.Abstract

/- Ways (a number, a state, a list) as they lie in memory; the contracts of the laws' own helpers over one Way. Conditions: lengths that a machine can hold. -/

namespace Go.Proofs.Ytbcggkfbahmpoaa
open Go.ChangeShapes Go.WideShapes Go.ChangeAt Go.RowKit
set_option linter.unusedVariables false

abbrev wayR : Rep (Int × Int × List Int) := prodR intR (prodR intR intsR)
abbrev wayM : Mk (Int × Int × List Int) := prodM intM (prodM intM intsM)
abbrev waysR : Rep (List (Int × Int × List Int)) := slR 37 wayR
abbrev waysM : Mk (List (Int × Int × List Int)) := slM wayM
abbrev setsR : Rep (List (List (Int × Int × List Int))) := slR 80 waysR
abbrev setsM : Mk (List (List (Int × Int × List Int))) := slM waysM
abbrev cacheR : Rep (List (List (Int × Int × List Int)) × List Int) := prodR setsR intsR
abbrev cacheM : Mk (List (List (Int × Int × List Int)) × List Int) := prodM setsM intsM

theorem opens_way : Opens Try.prog 28 wayR :=
  opens_struct Try.underlying28 (by kernel_rfl) (opensF_cons rfl (by kernel_rfl) opens_i64 (opensF_cons rfl (by kernel_rfl) opens_i64 (opensF_one rfl (by kernel_rfl) opens_ints)))
theorem opens_ways : Opens Try.prog 92 waysR := opens_slice Try.underlying92 (by kernel_rfl) (by decide) opens_way
theorem opens_sets : Opens Try.prog 22 setsR := opens_slice Try.underlying22 (by kernel_rfl) (by decide) opens_ways
theorem opens_cache : Opens Try.prog 25 cacheR :=
  opens_struct Try.underlying25 (by kernel_rfl) (opensF_cons rfl (by kernel_rfl) opens_sets (opensF_one rfl (by kernel_rfl) opens_ints))

theorem way_rd {w : World} {cs : List Value} {u : Int × Int × List Int} (h : wayR.rd w cs u) :
    ∃ a cap, cs = [.int .i64 u.1, .int .i64 u.2.1, .slice a u.2.2.length cap] ∧ In64 u.1 ∧ In64 u.2.1 ∧ u.2.2.length ≤ cap ∧ cap ≤ maxLen ∧ SlRd intR w a u.2.2 := by
  obtain ⟨c1, c2, rfl, ⟨rfl, i1⟩, c3, c4, rfl, ⟨rfl, i2⟩, a, cap, rfl, h1, h2, h3⟩ := h
  exact ⟨a, cap, rfl, i1, i2, h1, h2, h3⟩
theorem rd_way {w : World} {l s : Int} {d : List Int} {a : Option Addr} {cap : Nat} (i1 : In64 l) (i2 : In64 s) (h1 : d.length ≤ cap) (h2 : cap ≤ maxLen) (h3 : SlRd intR w a d) :
    wayR.rd w [.int .i64 l, .int .i64 s, .slice a d.length cap] (l, s, d) := ⟨[_], [_, _], rfl, ⟨rfl, i1⟩, [_], [_], rfl, ⟨rfl, i2⟩, a, cap, rfl, h1, h2, h3⟩
theorem cache_rd {w : World} {cs : List Value} {c : List (List (Int × Int × List Int)) × List Int} (h : cacheR.rd w cs c) :
    ∃ a cap b cp, cs = [.slice a c.1.length cap, .slice b c.2.length cp] ∧ c.1.length ≤ cap ∧ cap ≤ maxLen ∧ c.2.length ≤ cp ∧ cp ≤ maxLen ∧ SlRd waysR w a c.1 ∧ SlRd intR w b c.2 := by
  obtain ⟨c1, c2, rfl, ⟨a, cap, rfl, h1, h2, h3⟩, b, cp, rfl, k1, k2, k3⟩ := h
  exact ⟨a, cap, b, cp, rfl, h1, h2, k1, k2, h3, k3⟩
theorem rd_cache {w : World} {c : List (List (Int × Int × List Int)) × List Int} {a b : Option Addr} {cap cp : Nat} (h1 : c.1.length ≤ cap) (h2 : cap ≤ maxLen) (k1 : c.2.length ≤ cp) (k2 : cp ≤ maxLen) (h3 : SlRd waysR w a c.1) (k3 : SlRd intR w b c.2) :
    cacheR.rd w [.slice a c.1.length cap, .slice b c.2.length cp] c := ⟨[_], [_], rfl, ⟨a, cap, rfl, h1, h2, h3⟩, b, cp, rfl, k1, k2, k3⟩

theorem way_own {w : World} {S : Foot} {cs : List Value} {u : Int × Int × List Int} (h : wayR.own w S cs u) :
    ∃ v, cs = [.int .i64 u.1, .int .i64 u.2.1, v] ∧ In64 u.1 ∧ In64 u.2.1 ∧ intsR.own w S [v] u.2.2 := by
  obtain ⟨c1, c2, S1, S2, rfl, ⟨rfl, i1⟩, ⟨c3, c4, S3, S4, rfl, ⟨rfl, i2⟩, h3, a3, a4, d2⟩, a1, a2, d⟩ := h
  have hl := intsR.rd_len (intsR.own_rd h3)
  obtain ⟨v, rfl⟩ : ∃ v, c4 = [v] := List.length_eq_one_iff.1 hl
  exact ⟨v, rfl, i1, i2, intsR.own_mono h3 (a4.trans a2)⟩
theorem own_way {w : World} {S : Foot} {l s : Int} {d : List Int} {v : Value} (i1 : In64 l) (i2 : In64 s) (h : intsR.own w S [v] d) : wayR.own w S [.int .i64 l, .int .i64 s, v] (l, s, d) :=
  ⟨[_], [_, _], fun _ => False, S, rfl, ⟨rfl, i1⟩, ⟨[_], [_], fun _ => False, S, rfl, ⟨rfl, i2⟩, h, fun _ h => h.elim, Sub.refl _, fun _ h _ => h⟩, fun _ h => h.elim, Sub.refl _, fun _ h _ => h⟩

set_option maxHeartbeats 400000 in
theorem szWay_rep (l s : Int) (d : List Int) (a : Option Addr) (cap : Nat) (left : Int) (w : World) (h0 : 0 ≤ left) (h1 : left ≤ 1048576) (hm : d.length ≤ maxLen) :
    Calls Try.prog 19 #[.agg #[.int .i64 l, .int .i64 s, .slice a d.length cap], .int .i64 left] w fun e w' => e = .returned (.int .i64 (szI (wayM.bk (l, s, d)) left)) ∧ Below w.heap.size w w' := by
  have hb : wayM.bk (l, s, d) = intsM.bk d := by show 0 + (0 + intsM.bk d) = _; omega
  rw [hb]
  by_cases hl : (intsM.bk d : Int) ≤ left
  · have HS : Hid (szI (intsM.bk d) left = _) := szI_yes hl
    have hl' : ¬ (left - (intsM.bk d : Int) < 0) := by omega
    go_enter Try.func19, Try.ntmps19
    go_wp2_with (go_at_call 20; refine (szInt64S_rep _ d _ _ _ h0 h1 hm).mono ?_; rintro e w' ⟨rfl, rfl⟩; rw [HS.out])
    go_ret
    exact ⟨ret_int HS.out.symm, box_below w _⟩
  · have HS : Hid (szI (intsM.bk d) left = _) := szI_no hl
    go_enter Try.func19, Try.ntmps19
    go_wp2_with (go_at_call 20; refine (szInt64S_rep _ d _ _ _ h0 h1 hm).mono ?_; rintro e w' ⟨rfl, rfl⟩; rw [HS.out])
    go_ret
    exact ⟨ret_int HS.out.symm, box_below w _⟩

end Go.Proofs.Ytbcggkfbahmpoaa


/- A range over a function whose iterator is known by what it hands out, round by round. No program here. -/
namespace Go.Proofs.Ytbcggkfbahmpoaa
open Go.ChangeShapes Go.WideShapes Go.ChangeAt Go.RowKit Go.Shelf
set_option linter.unusedVariables false

section
variable {P : Program}

/-- No block from B on that was there has turned. -/
def Kept (B : Nat) (W W' : World) : Prop := W.heap.size ≤ W'.heap.size ∧ ∀ k, B ≤ k → k < W.heap.size → W'.heap[k]? = W.heap[k]?
theorem Kept.refl (B : Nat) (W : World) : Kept B W W := ⟨Nat.le_refl _, fun _ _ _ => rfl⟩
theorem Kept.trans {B : Nat} {U V W : World} (h : Kept B U V) (k : Kept B V W) : Kept B U W := ⟨Nat.le_trans h.1 k.1, fun i hi hl => (k.2 i hi (Nat.lt_of_lt_of_le hl h.1)).trans (h.2 i hi hl)⟩
theorem Kept.mono {B B' : Nat} {W W' : World} (h : Kept B W W') (hb : B ≤ B') : Kept B' W W' := ⟨h.1, fun i hi hl => h.2 i (Nat.le_trans hb hi) hl⟩
theorem Kept.below {B : Nat} {W W' : World} (h : Below W.heap.size W W') : Kept B W W' := ⟨h.size, fun i _ hl => h.block i hl⟩
theorem Kept.chg {B : Nat} {S : Foot} {W W' : World} (h : Chg S W W') (hS : ∀ k, S k → k < B) : Kept B W W' := ⟨h.size, fun i hi hl => h.block i hl fun x => by have := hS i x; omega⟩
theorem Kept.alloc (B : Nat) (W : World) (o : Obj) : Kept B W (W.alloc o) := ⟨by simp, fun i _ hl => Below.heap_alloc W o i hl⟩
theorem Kept.put {B l : Nat} (W : World) (o : Obj) (h : l < B) : Kept B W (W.putObj l o) := ⟨by simp, fun i hi _ => World.putObj_heap_other (by omega)⟩
theorem own_later {β : Type} {B B' : Nat} {I : β → World → Prop} (h : OwnFrom B I) (hb : B ≤ B') : OwnFrom B' I := fun s W W' row hs hg hr => h s W W' row hs hg (fun r e => ⟨Nat.le_trans hb (hr r e).1, (hr r e).2⟩)
theorem own_heap {β : Type} (B k : Nat) (cs : Array Value) (t : TypeId) : OwnFrom B (fun (_ : β) W => W.heap[k]? = some (.cells cs t (0, 0))) := fun s X Y row hs hg hr => by
  refine (hg.block k (Array.getElem?_eq_some_iff.1 hs).1 fun e => ?_).trans hs
  obtain ⟨o, ho, hc⟩ := (hr k e.symm).2
  rw [hs] at ho
  cases ho
  cases hc

/-- The iterator g with its captured lb hands out 'args 0', .., 'args (N - 1)' in this order, for as long as it is told to go on. 'R': what it must find in memory between any two rounds. J: what holds when so many rounds are over; Jx: what holds when the round of this number has said 'no more'. -/
def Iter (P : Program) (g : Nat) (lb : Array Value) (args : Nat → Array Value) (N : Nat) (R : World → Prop) : Prop :=
  ∀ (l : Nat) (J Jx : Nat → World → Prop) (W : World), OwnFrom W.heap.size J → OwnFrom W.heap.size Jx → (∀ k W1, J k W1 → R W1) →
    (∀ k W1, k < N → J k W1 → YieldAt Fence.wide 0 P l (args k) W1 fun e W' => Kept W.heap.size W1 W' ∧ ((e = .returned (.bool true) ∧ J (k + 1) W') ∨ (e = .returned (.bool false) ∧ Jx k W'))) →
    J 0 W → CallsIn Fence.wide 0 P g (#[.func (.yield l) #[] #[]] ++ lb) W fun e W' => (∃ v, e = .returned v) ∧ (J N W' ∨ ∃ k, k < N ∧ Jx k W')

/-- How a round's body may be left. -/
def roundsOn (B : Nat) (I : Nat → World → Prop) (Ix : Code → Nat → World → Prop) (k : Nat) (W : World) : Exit → Act → World → Prop
  | .normal, _, W' => Kept B W W' ∧ I (k + 1) W'
  | .ret, _, W' => Kept B W W' ∧ Ix .ret k W'
  | .exit id, _, W' => Kept B W W' ∧ Ix (.exit id) k W'
  | .goto t, _, W' => Kept B W W' ∧ Ix (.goto t) k W'
  | .panic _, _, _ => False
  | .outgrown, _, _ => False

theorem range_iter {g : Operand} {ps : Array Tmp} {assign body : Code} {Q : Exit → Act → World → Prop} {a : Act} {w : World} {gf : Nat} {lb : Array Value}
    (hg : a.eval g = .func (.func gf) #[] lb) (eg : Enters P gf)
    {args : Nat → Array Value} {N : Nat} {R : World → Prop} (it : Iter P gf lb args N R) (hps : ∀ k, (args k).size = ps.size)
    (I : Nat → World → Prop) (Ix : Code → Nat → World → Prop) (hI : OwnFrom w.heap.size I) (hIx : ∀ c, OwnFrom w.heap.size (Ix c)) (hR : ∀ k W, I k W → R W) (h0 : I 0 w) (A : Nat → Act → World → Prop) (hA : ∀ k a', OwnFrom w.heap.size (fun (_ : Unit) W => A k a' W))
    (hassign : ∀ (k : Nat) (W : World) (K : Act → World → Prop), k < N → I k W → w.heap.size + 1 < W.heap.size → (∀ a' W', Kept w.heap.size W W' → A k a' W' → K a' W') → assign.wpIn (Fence.wide.inRound (w.heap.size + 1)) 0 P (Exit.then K (fun _ _ _ => False)) { tmps := (ps.zip (args k)).foldl (fun t (p, v) => t.setIfInBounds p v) a.tmps, defers := [] } W)
    (hbody : ∀ (k : Nat) (a' : Act) (W : World), k < N → A k a' W → w.heap.size + 1 < W.heap.size → W.heap[w.heap.size]? = some (.deferred (some [])) → (∃ r, W.heap[w.heap.size + 1]? = some (.loop r)) → body.wpIn (Fence.wide.inRound (w.heap.size + 1)) 0 P (roundsOn w.heap.size I Ix k W) a' W)
    (hdone : ∀ W, I N W → W.heap[w.heap.size]? = some (.deferred (some [])) → Q .normal { a with defers := { target := .collected w.heap.size, args := #[] } :: a.defers } W)
    (hstop : ∀ c k W, k < N → Ix c k W → W.heap[w.heap.size]? = some (.deferred (some [])) → c.wpIn Fence.wide 0 P Q { a with defers := { target := .collected w.heap.size, args := #[] } :: a.defers } W) :
    (Code.rangeFunc g ps assign body).wpIn Fence.wide 0 P Q a w := by
  refine wpIn_rangeFunc fun fn hfn => ?_
  let lp : LoopState → Option Code → Obj := fun st pe => .loop { state := st, pending := pe, fn, tmps := a.tmps, params := ps, assign, body, defers := w.heap.size }
  have keep : ∀ {A B : World} {row : Option Nat} {st : LoopState} {pe : Option Code}, A.grownBy B row → (∀ r, row = some r → w.heap.size + 2 ≤ r ∧ ∃ o : Obj, A.heap[r]? = some o ∧ o.isCells = false) → A.heap[w.heap.size + 1]? = some (lp st pe) → A.heap[w.heap.size]? = some (.deferred (some [])) →
      B.heap[w.heap.size + 1]? = some (lp st pe) ∧ B.heap[w.heap.size]? = some (.deferred (some [])) := by
    intro A B row st pe hgr hr h1 h2
    have l1 := (Array.getElem?_eq_some_iff.1 h1).1
    refine ⟨(hgr.block _ l1 fun e => ?_).trans h1, (hgr.block _ (by omega) fun e => ?_).trans h2⟩
    · have := (hr _ e.symm).1
      omega
    · have := (hr _ e.symm).1
      omega
  have more : ∀ {A B : World} {row : Option Nat}, (∀ r, row = some r → w.heap.size + 2 ≤ r ∧ ∃ o : Obj, A.heap[r]? = some o ∧ o.isCells = false) → ∀ r, row = some r → w.heap.size ≤ r ∧ ∃ o : Obj, A.heap[r]? = some o ∧ o.isCells = false :=
    fun hr r e => ⟨by have := (hr r e).1; omega, (hr r e).2⟩
  have sz : ((w.alloc (.deferred (some []))).alloc (lp .ready none)).heap.size = w.heap.size + 2 := by simp
  refine ⟨w.heap.size + 1, [{ target := .collected w.heap.size, args := #[] }], (w.alloc (.deferred (some []))).alloc (lp .ready none), { target := .fn (.func gf) lb, args := #[.func (.yield (w.heap.size + 1)) #[] #[]] }, (w.alloc (.deferred (some []))).alloc (lp .ready none), gf,
    #[.func (.yield (w.heap.size + 1)) #[] #[]] ++ lb, (w.alloc (.deferred (some []))).alloc (lp .ready none), run_enterLoop_outer _ _ _ _ _, ?_, fun _ _ => trivial, ?_, (fun h => by cases h), ?_⟩
  · simp only [resolve, hg]
    simp [go_sem]
  · have eg' : ∀ args w, (callFunc gf args).run P w = .ok (.enter gf args) w := eg
    simp [invoke, go_sem, eg']
  refine (it (w.heap.size + 1) (fun k W => I k W ∧ W.heap[w.heap.size + 1]? = some (lp .ready none) ∧ W.heap[w.heap.size]? = some (.deferred (some [])))
    (fun k W => ∃ c, Ix c k W ∧ W.heap[w.heap.size + 1]? = some (lp .done (some c)) ∧ W.heap[w.heap.size]? = some (.deferred (some []))) _ ?_ ?_ (fun k W h => hR k W h.1) ?_ ⟨?_, ?_, ?_⟩).mono ?_
  · rintro k A B row ⟨h1, h2, h3⟩ hgr hr
    rw [sz] at hr
    exact ⟨hI k A B row h1 hgr (more (B := B) hr), keep hgr hr h2 h3⟩
  · rintro k A B row ⟨c, h1, h2, h3⟩ hgr hr
    rw [sz] at hr
    exact ⟨c, hIx c k A B row h1 hgr (more (B := B) hr), keep hgr hr h2 h3⟩
  · rintro k W hk ⟨hi, hl, hd⟩
    have hlt := (Array.getElem?_eq_some_iff.1 hl).1
    refine ⟨fn, _, assign, body, run_yield hl (hps k), roundIn_of_wpIn hfn (hassign k W _ hk hi hlt ?_)⟩
    clear hi
    intro a' Wa hka hax
    replace hl := (hka.2 _ (by omega) hlt).trans hl
    replace hd := (hka.2 _ (Nat.le_refl _) (by omega)).trans hd
    clear hlt
    replace hka : Kept ((w.alloc (.deferred (some []))).alloc (lp .ready none)).heap.size W Wa := hka.mono (by rw [sz]; omega)
    have hks : ∀ V o, Kept ((w.alloc (.deferred (some []))).alloc (lp .ready none)).heap.size V (V.putObj (w.heap.size + 1) o) := fun V o => Kept.put V o (by rw [sz]; omega)
    revert hka
    generalize W = Wb
    intro hka
    obtain ⟨W, rfl⟩ : ∃ W, W = Wa := ⟨_, rfl⟩
    have hlt := (Array.getElem?_eq_some_iff.1 hl).1
    refine ⟨_, run_beginRound hl rfl, ?_⟩
    have hl2 : (W.putObj (w.heap.size + 1) (lp .busy none)).heap[w.heap.size + 1]? = some (lp .busy none) := World.putObj_heap_same hlt
    have hd2 : (W.putObj (w.heap.size + 1) (lp .busy none)).heap[w.heap.size]? = some (.deferred (some [])) := (World.putObj_heap_other (by omega)).trans hd
    refine wpIn_mono (hbody k a' _ hk ((hA k a').putObj (s := ()) _ hax (by omega) hl rfl) (by simpa using hlt) hd2 ⟨_, hl2⟩) ?_
    have fin : ∀ (jump : Option Code) (W3 : World), Kept w.heap.size (W.putObj (w.heap.size + 1) (lp .busy none)) W3 →
        Kept ((w.alloc (.deferred (some []))).alloc (lp .ready none)).heap.size Wb (W3.putObj (w.heap.size + 1) (lp (if jump.isNone then .ready else .done) jump)) ∧
        (Instr.endRound (w.heap.size + 1) jump).run P W3 = .ok (.bool jump.isNone) (W3.putObj (w.heap.size + 1) (lp (if jump.isNone then .ready else .done) jump)) ∧ W3.heap[w.heap.size + 1]? = some (lp .busy none) ∧
        (W3.putObj (w.heap.size + 1) (lp (if jump.isNone then .ready else .done) jump)).heap[w.heap.size + 1]? = some (lp (if jump.isNone then .ready else .done) jump) ∧
        (W3.putObj (w.heap.size + 1) (lp (if jump.isNone then .ready else .done) jump)).heap[w.heap.size]? = some (.deferred (some [])) := by
      intro jump W3 e0
      have e2 := (e0.2 _ (by omega) (by simpa using hlt)).trans hl2
      have e1 := (e0.2 _ (Nat.le_refl _) (by simp; omega)).trans hd2
      exact ⟨((hka.trans (hks _ _)).trans (e0.mono (by rw [sz]; omega))).trans (hks _ _), run_endRound jump e2, e2, World.putObj_heap_same (Array.getElem?_eq_some_iff.1 e2).1, (World.putObj_heap_other (by omega)).trans e1⟩
    intro e a3 W3 hp
    cases e with
    | normal =>
      obtain ⟨e0, hi3⟩ := hp
      obtain ⟨hkk, hr, hl3, hl4, hk4⟩ := fin none W3 e0
      exact ⟨_, _, hr, hkk, .inl ⟨rfl, hI.putObj _ hi3 (by omega) hl3 rfl, hl4, hk4⟩⟩
    | ret =>
      obtain ⟨e0, hi3⟩ := hp
      obtain ⟨hkk, hr, hl3, hl4, hk4⟩ := fin (some .ret) W3 e0
      exact ⟨_, _, hr, hkk, .inr ⟨rfl, .ret, (hIx _).putObj _ hi3 (by omega) hl3 rfl, hl4, hk4⟩⟩
    | exit id =>
      obtain ⟨e0, hi3⟩ := hp
      obtain ⟨hkk, hr, hl3, hl4, hk4⟩ := fin (some (.exit id)) W3 e0
      exact ⟨_, _, hr, hkk, .inr ⟨rfl, .exit id, (hIx _).putObj _ hi3 (by omega) hl3 rfl, hl4, hk4⟩⟩
    | goto t =>
      obtain ⟨e0, hi3⟩ := hp
      obtain ⟨hkk, hr, hl3, hl4, hk4⟩ := fin (some (.goto t)) W3 e0
      exact ⟨_, _, hr, hkk, .inr ⟨rfl, .goto t, (hIx _).putObj _ hi3 (by omega) hl3 rfl, hl4, hk4⟩⟩
    | panic ch => exact hp.elim
    | outgrown => exact hp.elim
  · exact hI.alloc _ (hI.alloc _ h0)
  · have := World.alloc_heap_new (w.alloc (.deferred (some []))) (lp .ready none)
    rwa [World.size_alloc] at this
  · exact (Below.heap_alloc _ _ _ (by simp)).trans (World.alloc_heap_new w _)
  · rintro e W ⟨⟨v, rfl⟩, ⟨hi, hl, hd⟩ | ⟨k, hk, c, hi, hl, hd⟩⟩
    · exact ⟨none, _, run_endLoop hl (by simp), hdone _ (hI.putObj _ hi (by omega) hl rfl) ((World.putObj_heap_other (by omega)).trans hd)⟩
    · exact ⟨some c, _, run_endLoop hl (by simp), hstop c k _ hk ((hIx c).putObj _ hi (by omega) hl rfl) ((World.putObj_heap_other (by omega)).trans hd)⟩

end
end Go.Proofs.Ytbcggkfbahmpoaa


/- Stores as plain lists: what is right, what is found, filled, dropped, and what must go. No program here. Conditions, as premises: what trees and lines are told to do. -/
namespace Go.Proofs.Ytbcggkfbahmpoaa
open Go.RowKit
set_option linter.unusedVariables false

abbrev WayD := Int × Int × List Int
abbrev CacheD := List (List WayD) × List Int

def emptyW : WayD := (-1, 0, [])
def clearB (u : WayD) : Bool := decide (u.1 = -1 ∧ u.2.1 = 0 ∧ u.2.2 = [])
def pow3 (n : Nat) : Prop := n = 1 ∨ n = 2 ∨ n = 4

section
variable (ln : List Int → Bool) (tok : Int → Int → Bool) (tou : Int → Int → Int → Int) (vic : Int → Int → Int)

def fullB (u : WayD) : Bool := decide ((0 ≤ u.1 ∧ u.1 ≤ 15) ∧ (1 ≤ u.2.1 ∧ u.2.1 ≤ 3) ∧ ln u.2.2 = true)

def RowOk (n s : Nat) (row : List WayD) : Prop :=
  (∀ (i : Nat) (u : WayD), row[i]? = some u → clearB u = true ∨ (fullB ln u = true ∧ u.1 % (n : Int) = s)) ∧
  ∀ (i k : Nat) (u x : WayD), row[i]? = some u → row[k]? = some x → 0 ≤ u.1 → u.1 = x.1 → i = k

def OkC (c : CacheD) : Prop :=
  pow3 c.1.length ∧ c.2.length = c.1.length ∧ ∃ m, pow3 m ∧ ∀ (s : Nat) (row : List WayD), c.1[s]? = some row → row.length = m ∧ (∃ t, c.2[s]? = some t ∧ tok t m = true) ∧ RowOk ln c.1.length s row

def setNo (c : CacheD) (line : Int) : Nat := (line % (c.1.length : Int)).toNat
def rowFor (c : CacheD) (line : Int) : List WayD := c.1.getD (setNo c line) []
def atC (c : CacheD) (line : Int) : Option Nat := if line < 0 then none else (rowFor c line).findIdx? fun u => u.1 == line
def roomC (c : CacheD) (line : Int) : Option Nat := (rowFor c line).findIdx? clearB
def putNo (c : CacheD) (line : Int) : Option Nat := match atC c line with
  | some i => some i
  | none => roomC c line
def treeFor (c : CacheD) (line : Int) : Int := c.2.getD (setNo c line) 0

def fillX (c : CacheD) (u : WayD) (i : Nat) : CacheD :=
  (c.1.set (setNo c u.1) ((rowFor c u.1).set i u), c.2.set (setNo c u.1) (tou (treeFor c u.1) (rowFor c u.1).length i))
def dropX (c : CacheD) (line : Int) (i : Nat) : CacheD := (c.1.set (setNo c line) ((rowFor c line).set i emptyW), c.2)

open Classical in
noncomputable def okB (c : CacheD) : Bool := decide (OkC ln tok c)
noncomputable def findC (c : CacheD) (line : Int) : WayD × Int := if okB ln tok c then (match atC c line with
  | some i => ((rowFor c line).getD i emptyW, (i : Int))
  | none => (emptyW, -1)) else (emptyW, -1)
noncomputable def fillC (c : CacheD) (u : WayD) : CacheD × Bool := if okB ln tok c then (if fullB ln u then (match putNo c u.1 with
  | some i => (fillX tou c u i, true)
  | none => (c, false)) else (c, false)) else (([], []), false)
noncomputable def dropC (c : CacheD) (line : Int) : CacheD × Bool := if okB ln tok c then (match atC c line with
  | some i => (dropX c line i, true)
  | none => (c, false)) else (([], []), false)
noncomputable def leavesC (c : CacheD) (line : Int) : Int := if okB ln tok c && betw line 0 15 then (match putNo c line with
  | some _ => -1
  | none => ((rowFor c line).getD (vic (treeFor c line) (rowFor c line).length).toNat emptyW).1) else -1
def newX (n m : Nat) : CacheD := (List.replicate n (List.replicate m emptyW), List.replicate n 0)
end

section
variable {ln : List Int → Bool} {tok : Int → Int → Bool} {tou : Int → Int → Int → Int} {vic : Int → Int → Int}

theorem okB_iff {c : CacheD} : okB ln tok c = true ↔ OkC ln tok c := by simp [okB]
theorem clear_empty : clearB emptyW = true := by decide
theorem clear_eq {u : WayD} (h : clearB u = true) : u = emptyW := by
  simp [clearB] at h
  obtain ⟨a, b, d⟩ := u
  simp at h
  simp [emptyW, h]
theorem full_line {u : WayD} (h : fullB ln u = true) : 0 ≤ u.1 ∧ u.1 ≤ 15 := by
  simp [fullB] at h
  exact h.1
theorem full_not_clear {u : WayD} (h : fullB ln u = true) : clearB u = false := by
  have := (full_line h).1
  simp [clearB]
  omega

theorem pow3_pos {n : Nat} (h : pow3 n) : 0 < n := by rcases h with h | h | h <;> omega
theorem setNo_lt {c : CacheD} {line : Int} (h : pow3 c.1.length) : setNo c line < c.1.length := by
  have := pow3_pos h
  have h1 := Int.emod_nonneg line (show (c.1.length : Int) ≠ 0 by omega)
  have h2 := Int.emod_lt_of_pos line (show (0 : Int) < c.1.length by omega)
  unfold setNo
  omega
theorem setNo_cast {c : CacheD} {line : Int} (h : pow3 c.1.length) : ((setNo c line : Nat) : Int) = line % (c.1.length : Int) := by
  have := pow3_pos h
  have h1 := Int.emod_nonneg line (show (c.1.length : Int) ≠ 0 by omega)
  unfold setNo
  omega
theorem rowFor_get {c : CacheD} {line : Int} (h : pow3 c.1.length) : c.1[setNo c line]? = some (rowFor c line) := by
  have := setNo_lt (line := line) h
  unfold rowFor
  rw [List.getD_eq_getElem?_getD, List.getElem?_eq_getElem this]
  rfl

theorem idx_some {p : WayD → Bool} {row : List WayD} {i : Nat} (h : row.findIdx? p = some i) : ∃ u, row[i]? = some u ∧ p u = true := by
  rw [List.findIdx?_eq_some_iff_getElem] at h
  obtain ⟨hi, hp, _⟩ := h
  exact ⟨row[i], List.getElem?_eq_getElem hi, hp⟩
theorem idx_none {p : WayD → Bool} {row : List WayD} (h : row.findIdx? p = none) {i : Nat} {u : WayD} (hu : row[i]? = some u) : p u = false := by
  rw [List.findIdx?_eq_none_iff] at h
  exact by simpa using h u (List.mem_of_getElem? hu)
theorem idx_of {p : WayD → Bool} {row : List WayD} {i : Nat} {u : WayD} (hu : row[i]? = some u) (hp : p u = true) : ∃ k, row.findIdx? p = some k := by
  cases h : row.findIdx? p with
  | none => rw [idx_none h hu] at hp; cases hp
  | some k => exact ⟨k, rfl⟩

theorem at_some {c : CacheD} {line : Int} {i : Nat} (h : atC c line = some i) : 0 ≤ line ∧ ∃ u, (rowFor c line)[i]? = some u ∧ u.1 = line := by
  unfold atC at h
  split at h
  · cases h
  · obtain ⟨u, hu, hp⟩ := idx_some h
    exact ⟨by omega, u, hu, by simpa using hp⟩
theorem at_none {c : CacheD} {line : Int} (h : atC c line = none) (h0 : 0 ≤ line) {i : Nat} {u : WayD} (hu : (rowFor c line)[i]? = some u) : u.1 ≠ line := by
  unfold atC at h
  rw [if_neg (by omega)] at h
  simpa using idx_none h hu
theorem at_of {c : CacheD} {line : Int} (h0 : 0 ≤ line) {i : Nat} {u : WayD} (hu : (rowFor c line)[i]? = some u) (hl : u.1 = line) : ∃ k, atC c line = some k := by
  unfold atC
  rw [if_neg (by omega)]
  exact idx_of hu (by simp [hl])

/- A row in which one way is turned. -/
theorem row_set {n s : Nat} {row : List WayD} {i : Nat} {x : WayD} (h : RowOk ln n s row) (hx : clearB x = true ∨ (fullB ln x = true ∧ x.1 % (n : Int) = s)) (hnew : ∀ (k : Nat) (u : WayD), row[k]? = some u → 0 ≤ x.1 → u.1 = x.1 → k = i) : RowOk ln n s (row.set i x) := by
  have key : ∀ (k : Nat) (u : WayD), (row.set i x)[k]? = some u → (k = i ∧ u = x) ∨ (k ≠ i ∧ row[k]? = some u) := by
    intro k u hu
    rw [List.getElem?_set] at hu
    by_cases hk : i = k
    · rw [if_pos hk] at hu
      split at hu
      · simp at hu
        exact .inl ⟨hk.symm, hu.symm⟩
      · cases hu
    · rw [if_neg hk] at hu
      exact .inr ⟨fun e => hk e.symm, hu⟩
  refine ⟨fun k u hu => ?_, fun k j u y hu hy h0 he => ?_⟩
  · rcases key k u hu with ⟨_, rfl⟩ | ⟨_, hu⟩
    · exact hx
    · exact h.1 k u hu
  · have ku := key k u hu
    have ky := key j y hy
    clear hu hy key
    rcases ku with ⟨rfl, rfl⟩ | ⟨hk, hu⟩
    · rcases ky with ⟨rfl, rfl⟩ | ⟨hj, hy⟩
      · rfl
      · exact (hnew j y hy h0 he.symm).symm
    · rcases ky with ⟨rfl, rfl⟩ | ⟨hj, hy⟩
      · exact hnew k u hu (by omega) he
      · exact h.2 k j u y hu hy h0 he

theorem ok_set {c : CacheD} {line : Int} {i : Nat} {x : WayD} {t : Int} {m : Nat} (h1 : pow3 c.1.length) (h2 : c.2.length = c.1.length) (hm : pow3 m)
    (h3 : ∀ (s : Nat) (row : List WayD), c.1[s]? = some row → row.length = m ∧ (∃ t, c.2[s]? = some t ∧ tok t m = true) ∧ RowOk ln c.1.length s row)
    (ht : tok t m = true) (hr : RowOk ln c.1.length (setNo c line) ((rowFor c line).set i x)) :
    OkC ln tok (c.1.set (setNo c line) ((rowFor c line).set i x), c.2.set (setNo c line) t) := by
  have hlt := setNo_lt (line := line) h1
  refine ⟨by simpa using h1, by simpa using h2, m, hm, fun s row hs => ?_⟩
  simp only [List.length_set] at hs ⊢
  rw [List.getElem?_set] at hs
  by_cases he : setNo c line = s
  · subst he
    rw [if_pos rfl, if_pos hlt] at hs
    simp at hs
    subst hs
    refine ⟨?_, ⟨t, ?_, ht⟩, hr⟩
    · rw [List.length_set]
      exact (h3 _ _ (rowFor_get h1)).1
    · rw [List.getElem?_set, if_pos rfl, if_pos (by omega)]
  · rw [if_neg he] at hs
    obtain ⟨a1, ⟨t', a2, a3⟩, a4⟩ := h3 s row hs
    exact ⟨a1, ⟨t', by rw [List.getElem?_set, if_neg he]; exact a2, a3⟩, a4⟩

theorem tree_get {c : CacheD} {line : Int} {m : Nat} (h1 : pow3 c.1.length) (h2 : c.2.length = c.1.length)
    (h3 : ∀ (s : Nat) (row : List WayD), c.1[s]? = some row → row.length = m ∧ (∃ t, c.2[s]? = some t ∧ tok t m = true) ∧ RowOk ln c.1.length s row) :
    (rowFor c line).length = m ∧ c.2[setNo c line]? = some (treeFor c line) ∧ tok (treeFor c line) m = true ∧ RowOk ln c.1.length (setNo c line) (rowFor c line) := by
  obtain ⟨a1, ⟨t, a2, a3⟩, a4⟩ := h3 _ _ (rowFor_get (line := line) h1)
  have : treeFor c line = t := by
    unfold treeFor
    rw [List.getD_eq_getElem?_getD, a2]
    rfl
  rw [this]
  exact ⟨a1, a2, a3, a4⟩

/- Rows of a store in which one set is turned. -/
theorem rowFor_set {c : CacheD} {line l : Int} {row : List WayD} {ts : List Int} (h1 : pow3 c.1.length) :
    rowFor (c.1.set (setNo c line) row, ts) l = if setNo c l = setNo c line then row else rowFor c l := by
  have hlt := setNo_lt (line := line) h1
  have e : setNo (c.1.set (setNo c line) row, ts) l = setNo c l := by simp [setNo]
  unfold rowFor
  rw [e]
  simp only [List.getD_eq_getElem?_getD, List.getElem?_set]
  by_cases he : setNo c line = setNo c l
  · rw [if_pos he, if_pos hlt, if_pos he.symm]
    rfl
  · rw [if_neg he, if_neg (fun e => he e.symm)]

/- What is filled: the store stays right. -/
theorem fill_ok {c : CacheD} {u : WayD} {i : Nat} (ht : ∀ t n y : Int, tok t n = true → 0 ≤ y → y < n → tok (tou t n y) n = true) (h : OkC ln tok c) (hu : fullB ln u = true) (hp : putNo c u.1 = some i) :
    OkC ln tok (fillX tou c u i) ∧ ∃ x, (rowFor c u.1)[i]? = some x ∧ (clearB x = true ∨ x.1 = u.1) := by
  obtain ⟨h1, h2, m, hm, h3⟩ := h
  obtain ⟨a1, a2, a3, a4⟩ := tree_get (line := u.1) h1 h2 h3
  have hl := full_line hu
  have hput : ∃ x, (rowFor c u.1)[i]? = some x ∧ ((clearB x = true ∧ atC c u.1 = none) ∨ x.1 = u.1) := by
    unfold putNo at hp
    split at hp
    · rename_i k hk
      simp at hp
      subst hp
      obtain ⟨_, x, hx, he⟩ := at_some hk
      exact ⟨x, hx, .inr he⟩
    · rename_i hk
      obtain ⟨x, hx, hc⟩ := idx_some hp
      exact ⟨x, hx, .inl ⟨hc, hk⟩⟩
  obtain ⟨x, hx, hcase⟩ := hput
  have hi : i < m := by
    have := (List.getElem?_eq_some_iff.1 hx).1
    omega
  refine ⟨?_, x, hx, hcase.imp (fun h => h.1) id⟩
  unfold fillX
  refine ok_set h1 h2 hm h3 (by rw [a1]; exact ht _ _ _ a3 (by omega) (by omega)) (row_set a4 (.inr ⟨hu, (setNo_cast h1).symm⟩) ?_)
  intro k y hy h0 he
  rcases hcase with ⟨_, hn⟩ | hxe
  · exact absurd he (at_none hn h0 hy)
  · exact a4.2 k i y x hy hx (by omega) (he.trans hxe.symm)

theorem at_iff {c : CacheD} {l : Int} {k : Nat} {u : WayD} (hr : ∀ (i k : Nat) (u x : WayD), (rowFor c l)[i]? = some u → (rowFor c l)[k]? = some x → 0 ≤ u.1 → u.1 = x.1 → i = k) (h0 : 0 ≤ l) (hu : (rowFor c l)[k]? = some u) (hl : u.1 = l) : atC c l = some k := by
  obtain ⟨j, hj⟩ := at_of h0 hu hl
  obtain ⟨_, x, hx, he⟩ := at_some hj
  rw [hj, hr j k x u hx hu (by omega) (by omega)]

theorem getD_of {row : List WayD} {i : Nat} {u : WayD} (h : row[i]? = some u) : row.getD i emptyW = u := by
  rw [List.getD_eq_getElem?_getD, h]
  rfl

/- What is filled is found; what is found of all other lines is as it was. -/
theorem fill_found {c : CacheD} {u : WayD} {i : Nat} (ht : ∀ t n y : Int, tok t n = true → 0 ≤ y → y < n → tok (tou t n y) n = true) (h : OkC ln tok c) (hu : fullB ln u = true) (hp : putNo c u.1 = some i) :
    findC ln tok (fillX tou c u i) u.1 = (u, (i : Int)) := by
  obtain ⟨hok, x, hx, _⟩ := fill_ok ht h hu hp
  have h1 := h.1
  have hl := full_line hu
  have hrow : rowFor (fillX tou c u i) u.1 = (rowFor c u.1).set i u := by
    unfold fillX
    rw [rowFor_set h1, if_pos rfl]
  have hget : (rowFor (fillX tou c u i) u.1)[i]? = some u := by
    rw [hrow, List.getElem?_set, if_pos rfl, if_pos (List.getElem?_eq_some_iff.1 hx).1]
  obtain ⟨g1, g2, m, gm, g3⟩ := hok
  have hat : atC (fillX tou c u i) u.1 = some i := at_iff (tree_get g1 g2 g3).2.2.2.2 hl.1 hget rfl
  unfold findC
  rw [if_pos (okB_iff.2 ⟨g1, g2, m, gm, g3⟩), hat]
  simp only [getD_of hget]

theorem find_none {c : CacheD} {l : Int} (h : atC c l = none) : findC ln tok c l = (emptyW, -1) := by
  unfold findC
  rw [h]
  split <;> rfl
theorem find_some {c : CacheD} {l : Int} {i : Nat} {u : WayD} (h : OkC ln tok c) (ha : atC c l = some i) (hu : (rowFor c l)[i]? = some u) : findC ln tok c l = (u, (i : Int)) := by
  unfold findC
  rw [if_pos (okB_iff.2 h), ha]
  simp only [getD_of hu]

/- Two stores that are right: a line is found in both alike where its rows hold it alike. -/
theorem find_same {c d : CacheD} {l : Int} (h : OkC ln tok c) (k : OkC ln tok d) (hh : ∀ (u : WayD), u.1 = l → ((∃ i : Nat, (rowFor c l)[i]? = some u) ↔ ∃ i : Nat, (rowFor d l)[i]? = some u)) : (findC ln tok c l).1 = (findC ln tok d l).1 := by
  cases hc : atC c l with
  | none =>
    cases hd : atC d l with
    | none => rw [find_none hc, find_none hd]
    | some j =>
      obtain ⟨h0, x, hx, he⟩ := at_some hd
      obtain ⟨i, hi⟩ := (hh x he).2 ⟨j, hx⟩
      exact absurd he (at_none hc h0 hi)
  | some i =>
    obtain ⟨h0, x, hx, he⟩ := at_some hc
    obtain ⟨j, hj⟩ := (hh x he).1 ⟨i, hx⟩
    obtain ⟨g1, g2, m, gm, g3⟩ := k
    have hd := at_iff (tree_get g1 g2 g3).2.2.2.2 h0 hj he
    rw [find_some h hc hx, find_some ⟨g1, g2, m, gm, g3⟩ hd hj]

theorem fill_other {c : CacheD} {u : WayD} {i : Nat} {l : Int} (ht : ∀ t n y : Int, tok t n = true → 0 ≤ y → y < n → tok (tou t n y) n = true) (h : OkC ln tok c) (hu : fullB ln u = true) (hp : putNo c u.1 = some i) (hl : l ≠ u.1) (h0 : 0 ≤ l) :
    (findC ln tok c l).1 = (findC ln tok (fillX tou c u i) l).1 := by
  obtain ⟨hok, x, hx, hcase⟩ := fill_ok ht h hu hp
  refine find_same h hok fun y hy => ?_
  have hrow : rowFor (fillX tou c u i) l = if setNo c l = setNo c u.1 then (rowFor c u.1).set i u else rowFor c l := by
    unfold fillX
    rw [rowFor_set h.1]
  rw [hrow]
  by_cases hs : setNo c l = setNo c u.1
  · rw [if_pos hs]
    have hrr : rowFor c l = rowFor c u.1 := by unfold rowFor; rw [hs]
    rw [hrr]
    constructor
    · rintro ⟨j, hj⟩
      refine ⟨j, ?_⟩
      rw [List.getElem?_set]
      by_cases hij : i = j
      · subst hij
        rw [hx] at hj
        simp at hj
        subst hj
        rcases hcase with hc | hc
        · have := clear_eq hc
          rw [this] at hy
          simp [emptyW] at hy
          omega
        · exact absurd (hy.symm.trans hc) hl
      · rw [if_neg hij]
        exact hj
    · rintro ⟨j, hj⟩
      rw [List.getElem?_set] at hj
      by_cases hij : i = j
      · rw [if_pos hij] at hj
        split at hj
        · simp at hj
          subst hj
          exact absurd hy.symm hl
        · cases hj
      · rw [if_neg hij] at hj
        exact ⟨j, hj⟩
  · rw [if_neg hs]

/- What is dropped is there no more. -/
theorem drop_ok {c : CacheD} {l : Int} {i : Nat} (h : OkC ln tok c) (ha : atC c l = some i) : OkC ln tok (dropX c l i) ∧ atC (dropX c l i) l = none ∧ roomC (dropX c l i) l ≠ none := by
  obtain ⟨h1, h2, m, hm, h3⟩ := h
  obtain ⟨a1, a2, a3, a4⟩ := tree_get (line := l) h1 h2 h3
  obtain ⟨h0, x, hx, he⟩ := at_some ha
  have hlt := (List.getElem?_eq_some_iff.1 hx).1
  have e2 : c.2.set (setNo c l) (treeFor c l) = c.2 := by
    apply List.ext_getElem?
    intro j
    rw [List.getElem?_set]
    by_cases hj : setNo c l = j
    · subst hj
      rw [if_pos rfl, if_pos (List.getElem?_eq_some_iff.1 a2).1, a2]
    · rw [if_neg hj]
  have hok : OkC ln tok (dropX c l i) := by
    have := ok_set (x := emptyW) (i := i) h1 h2 hm h3 a3 (row_set a4 (.inl clear_empty) (fun k u _ h => by simp [emptyW] at h))
    rw [e2] at this
    exact this
  have hrow : rowFor (dropX c l i) l = (rowFor c l).set i emptyW := by
    unfold dropX
    rw [rowFor_set h1, if_pos rfl]
  have hget : (rowFor (dropX c l i) l)[i]? = some emptyW := by rw [hrow, List.getElem?_set, if_pos rfl, if_pos hlt]
  refine ⟨hok, ?_, fun hn => ?_⟩
  · cases hat : atC (dropX c l i) l with
    | none => rfl
    | some j =>
      obtain ⟨_, y, hy, hye⟩ := at_some hat
      rw [hrow, List.getElem?_set] at hy
      by_cases hij : i = j
      · rw [if_pos hij, if_pos hlt] at hy
        simp at hy
        subst hy
        simp [emptyW] at hye
        omega
      · rw [if_neg hij] at hy
        exact absurd (a4.2 i j x y hx hy (by omega) (by omega)) hij
  · have := idx_none hn hget
    rw [clear_empty] at this
    cases this

/- A new one is right. -/
theorem new_ok {n m : Nat} (hn : pow3 n) (hm : pow3 m) (ht : ∀ m : Nat, pow3 m → tok 0 m = true) : OkC ln tok (newX n m) := by
  refine ⟨by simpa [newX] using hn, by simp [newX], m, hm, fun s row hs => ?_⟩
  simp only [newX, List.length_replicate] at hs ⊢
  rw [List.getElem?_replicate] at hs
  split at hs
  · rename_i hlt
    simp at hs
    subst hs
    refine ⟨by simp, ⟨0, by rw [List.getElem?_replicate, if_pos hlt], ht m hm⟩, fun i u hu => ?_, fun i k u x hu _ h0 _ => ?_⟩
    · rw [List.getElem?_replicate] at hu
      split at hu
      · simp at hu
        subst hu
        exact .inl clear_empty
      · cases hu
    · rw [List.getElem?_replicate] at hu
      split at hu
      · simp at hu
        subst hu
        simp [emptyW] at h0
      · cases hu
  · cases hs

/- What must go. -/
theorem leaves_none {c : CacheD} {line : Int} (hv : ∀ t n : Int, tok t n = true → 0 ≤ vic t n ∧ vic t n < n) (h : OkC ln tok c) (hp : putNo c line = none) (h0 : 0 ≤ line) :
    ∃ (j : Nat) (u : WayD), (rowFor c line)[j]? = some u ∧ (rowFor c line).getD (vic (treeFor c line) (rowFor c line).length).toNat emptyW = u ∧ fullB ln u = true ∧ setNo c u.1 = setNo c line ∧ u.1 ≠ line ∧ atC c u.1 = some j := by
  obtain ⟨h1, h2, m, hm, h3⟩ := h
  obtain ⟨a1, a2, a3, a4⟩ := tree_get (line := line) h1 h2 h3
  have hvv := hv _ _ a3
  rw [← a1] at hvv
  have hlt : (vic (treeFor c line) (rowFor c line).length).toNat < (rowFor c line).length := by omega
  generalize (vic (treeFor c line) (rowFor c line).length).toNat = j at hlt
  have hu : (rowFor c line)[j]? = some (rowFor c line)[j] := List.getElem?_eq_getElem hlt
  generalize (rowFor c line)[j] = u at hu
  have hn : atC c line = none ∧ roomC c line = none := by
    unfold putNo at hp
    split at hp
    · cases hp
    · rename_i hk
      exact ⟨hk, hp⟩
  have hne := at_none hn.1 h0 hu
  have hcl : clearB u = false := idx_none hn.2 hu
  rcases a4.1 j u hu with hc | ⟨hf, hs⟩
  · rw [hcl] at hc
    cases hc
  · have hset : setNo c u.1 = setNo c line := by
      have e1 := setNo_cast (line := u.1) h1
      omega
    have hrr : rowFor c u.1 = rowFor c line := by unfold rowFor; rw [hset]
    refine ⟨j, u, hu, getD_of hu, hf, hset, hne, ?_⟩
    exact at_iff (by rw [hrr]; exact a4.2) (full_line hf).1 (by rw [hrr]; exact hu) rfl

end
end Go.Proofs.Ytbcggkfbahmpoaa
