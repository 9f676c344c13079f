import Derived.Test.YtdamokokcdcedaaGreatDoorF00Box
import Derived.Test.YtdamokokcdcedaaGreatDoorF03
import Derived.RangeFuncNested
import Derived.RangeFuncBound
import Derived.RangeFuncLeaves
import Derived.Shelf.Abstract
namespace Go.Proofs.YtdamokokcdcedaaGreatDoor
open Go.ChangeShapes Go.WideShapes Go.ChangeAt Go.RowKit
set_option linter.unusedVariables false
abbrev wayR : Rep (Int × Int × List Int) := prodR intR (prodR intR intsR)
abbrev wayM : Mk (Int × Int × List Int) := prodM intM (prodM intM intsM)
abbrev waysR : Rep (List (Int × Int × List Int)) := slR 74 wayR
abbrev waysM : Mk (List (Int × Int × List Int)) := slM wayM
abbrev setsR : Rep (List (List (Int × Int × List Int))) := slR 127 waysR
abbrev setsM : Mk (List (List (Int × Int × List Int))) := slM waysM
abbrev cacheR : Rep (List (List (Int × Int × List Int)) × List Int) := prodR setsR intsR
abbrev cacheM : Mk (List (List (Int × Int × List Int)) × List Int) := prodM setsM intsM
theorem opens_way : Opens Tryz.prog 109 wayR :=
 opens_struct Tryz.underlying109 (by kernel_rfl) (opensF_cons rfl (by kernel_rfl) opens_i64 (opensF_cons rfl (by kernel_rfl) opens_i64 (opensF_one rfl (by kernel_rfl) opens_ints)))
theorem opens_ways : Opens Tryz.prog 252 waysR := opens_slice Tryz.underlying252 (by kernel_rfl) (by decide) opens_way
theorem opens_sets : Opens Tryz.prog 105 setsR := opens_slice Tryz.underlying105 (by kernel_rfl) (by decide) opens_ways
theorem opens_cache : Opens Tryz.prog 107 cacheR :=
 opens_struct Tryz.underlying107 (by kernel_rfl) (opensF_cons rfl (by kernel_rfl) opens_sets (opensF_one rfl (by kernel_rfl) opens_ints))
theorem way_rd {w : World} {cs : List Value} {u : Int × Int × List Int} (h : wayR.rd w cs u) :
    ∃ a b, cs = [nI u.1, nI u.2.1, sL a u.2.2.length b] ∧ In64 u.1 ∧ In64 u.2.1 ∧ u.2.2.length ≤ b ∧ b ≤ maxLen ∧ SlRd intR w a u.2.2 := by
 obtain ⟨c1, c2, rfl, ⟨rfl, g⟩, c3, c4, rfl, ⟨rfl, d⟩, a, b, rfl, i, f, c⟩ := h;exact ⟨a, b, rfl, g, d, i, f, c⟩
theorem cache_rd {w : World} {cs : List Value} {c : List (List (Int × Int × List Int)) × List Int} (h : cacheR.rd w cs c) :
    ∃ a d b f, cs = [sL a c.1.length d, sL b c.2.length f] ∧ c.1.length ≤ d ∧ d ≤ maxLen ∧ c.2.length ≤ f ∧ f ≤ maxLen ∧ SlRd waysR w a c.1 ∧ SlRd intR w b c.2 := by
 obtain ⟨c1, c2, rfl, ⟨a, d, rfl, m, l, g⟩, b, f, rfl, i, j, k⟩ := h;exact ⟨a, d, b, f, rfl, m, l, i, j, g, k⟩
theorem own_way {w : World} {S : Foot} {l s : Int} {d : List Int} {v : Value} (i1 : In64 l) (i2 : In64 s) (h : intsR.own w S [v] d) : wayR.own w S [nI l, nI s, v] (l, s, d) :=
 ⟨[_], [_, _], fun _ => False, S, rfl, ⟨rfl, i1⟩, ⟨[_], [_], fun _ => False, S, rfl, ⟨rfl, i2⟩, h, fun _ h => h.elim, Sub.refl _, fun _ h _ => h⟩, fun _ h => h.elim, Sub.refl _, fun _ h _ => h⟩
set_option maxHeartbeats 400000 in
theorem szWay_rep (l s : Int) (d : List Int) (a : Option Addr) (cap : Nat) (left : Int) (w : World) (h0 : 0 ≤ left) (h1 : left ≤ 1048576) (hm : d.length ≤ maxLen) :
    Calls Tryz.prog 124 #[.agg #[nI l, nI s, sL a d.length cap], nI left] w fun e c => e = .returned (nI (szI (wayM.bk (l, s, d)) left)) ∧ Bl w c := by
 have i : wayM.bk (l, s, d) = intsM.bk d := by show 0 + (0 + intsM.bk d) = _; omega
 rw [i];by_cases f : (intsM.bk d : Int) ≤ left
 ·have b : Hid (szI (intsM.bk d) left = _) := szI_yes f;have g : ¬ (left - (intsM.bk d : Int) < 0) := by omega
  go_enter Tryz.func124, Tryz.ntmps124;go_wp2_with (go_at_call 120; refine (szInt64S_rep _ d _ _ _ h0 h1 hm).mono ?_; rintro e c ⟨rfl, rfl⟩; rw [b.out])
  go_ret
  exact ⟨ret_int b.out.symm, box_below w _⟩
 ·have b : Hid (szI (intsM.bk d) left = _) := szI_no f;go_enter Tryz.func124, Tryz.ntmps124;go_wp2_with (go_at_call 120; refine (szInt64S_rep _ d _ _ _ h0 h1 hm).mono ?_; rintro e c ⟨rfl, rfl⟩; rw [b.out])
  go_ret
  exact ⟨ret_int b.out.symm, box_below w _⟩
open Go.ChangeShapes Go.WideShapes Go.ChangeAt Go.RowKit Go.Shelf
section
variable {P : Program}
def Kept (B : Nat) (W W' : World) : Prop := W.heap.size ≤ W'.heap.size ∧ ∀ k, B ≤ k → k < W.heap.size → W'.heap[k]? = W.heap[k]?
theorem Kept.refl (B : Nat) (W : World) : Kept B W W := ⟨Nat.le_refl _, fun _ _ _ => rfl⟩
theorem Kept.trans {B : Nat} {U V W : World} (h : Kept B U V) (k : Kept B V W) : Kept B U W := ⟨Nat.le_trans h.1 k.1, fun i hi hl => (k.2 i hi (Nat.lt_of_lt_of_le hl h.1)).trans (h.2 i hi hl)⟩
theorem Kept.mono {B B' : Nat} {W W' : World} (h : Kept B W W') (hb : B ≤ B') : Kept B' W W' := ⟨h.1, fun i hi hl => h.2 i (Nat.le_trans hb hi) hl⟩
theorem Kept.below {B : Nat} {W W' : World} (h : Bl W W') : Kept B W W' := ⟨h.size, fun i _ hl => h.block i hl⟩
theorem Kept.chg {B : Nat} {S : Foot} {W W' : World} (h : Chg S W W') (hS : ∀ k, S k → k < B) : Kept B W W' := ⟨h.size, fun i hi hl => h.block i hl fun x => by have := hS i x; omega⟩
theorem Kept.alloc (B : Nat) (W : World) (o : Obj) : Kept B W (W.alloc o) := ⟨by simp, fun i _ hl => Below.heap_alloc W o i hl⟩
theorem Kept.put {B l : Nat} (W : World) (o : Obj) (h : l < B) : Kept B W (W.putObj l o) := ⟨by simp, fun i hi _ => World.putObj_heap_other (by omega)⟩
theorem own_later {β : Type} {B B' : Nat} {I : β → World → Prop} (h : OwnFrom B I) (hb : B ≤ B') : OwnFrom B' I := fun s W W' row hs hg hr => h s W W' row hs hg (fun r e => ⟨Nat.le_trans hb (hr r e).1, (hr r e).2⟩)
theorem own_heap {β : Type} (B k : Nat) (cs : Array Value) (t : TypeId) : OwnFrom B (fun (_ : β) W => W.heap[k]? = some (.cells cs t (0, 0))) := fun s X Y row hs hg hr => by
 refine (hg.block k (ltH hs) fun e => ?_).trans hs;obtain ⟨o, a, b⟩ := (hr k e.symm).2;rw [hs] at a;cases a;cases b
def Iter (P : Program) (g : Nat) (lb : Array Value) (args : Nat → Array Value) (N : Nat) (R : World → Prop) : Prop :=
 ∀ (l : Nat) (J Jx : Nat → World → Prop) (W : World), OwnFrom W.heap.size J → OwnFrom W.heap.size Jx → (∀ k W1, J k W1 → R W1) →
  (∀ k W1, k < N → J k W1 → YieldAt Fence.wide 0 P l (args k) W1 fun e W' => Kept W.heap.size W1 W' ∧ ((e = .returned (.bool true) ∧ J (k + 1) W') ∨ (e = .returned (.bool false) ∧ Jx k W'))) →
  J 0 W → CallsIn Fence.wide 0 P g (#[.func (.yield l) #[] #[]] ++ lb) W fun e W' => (∃ v, e = .returned v) ∧ (J N W' ∨ ∃ k, k < N ∧ Jx k W')
def roundsOn (B : Nat) (I : Nat → World → Prop) (Ix : Code → Nat → World → Prop) (k : Nat) (W : World) : Exit → Act → World → Prop
 | .normal, _, W' => Kept B W W' ∧ I (k + 1) W'
 | .ret, _, W' => Kept B W W' ∧ Ix .ret k W'
 | .exit id, _, W' => Kept B W W' ∧ Ix (.exit id) k W'
 | .goto t, _, W' => Kept B W W' ∧ Ix (.goto t) k W'
 | .panic _, _, _ => False
 | .outgrown, _, _ => False
theorem range_iter {g : Operand} {ps : Array Tmp} {assign body : Code} {Q : Exit → Act → World → Prop} {a : Act} {w : World} {gf : Nat} {lb : Array Value}
    (hg : a.eval g = .func (.func gf) #[] lb) (eg : Enters P gf)
    {args : Nat → Array Value} {N : Nat} {R : World → Prop} (it : Iter P gf lb args N R) (hps : ∀ k, (args k).size = ps.size)
    (I : Nat → World → Prop) (Ix : Code → Nat → World → Prop) (hI : OwnFrom w.heap.size I) (hIx : ∀ c, OwnFrom w.heap.size (Ix c)) (hR : ∀ k W, I k W → R W) (h0 : I 0 w) (A : Nat → Act → World → Prop) (hA : ∀ k F, OwnFrom w.heap.size (fun (_ : Unit) W => A k F W))
    (hassign : ∀ (k : Nat) (W : World) (K : Act → World → Prop), k < N → I k W → w.heap.size + 1 < W.heap.size → (∀ F W', Kept w.heap.size W W' → A k F W' → K F W') → assign.wpIn (Fence.wide.inRound (w.heap.size + 1)) 0 P (Exit.then K (fun _ _ _ => False)) { tmps := (ps.zip (args k)).foldl (fun t (p, v) => t.setIfInBounds p v) a.tmps, defers := [] } W)
    (hbody : ∀ (k : Nat) (F : Act) (W : World), k < N → A k F W → w.heap.size + 1 < W.heap.size → W.heap[w.heap.size]? = some (.deferred (some [])) → (∃ r, W.heap[w.heap.size + 1]? = some (.loop r)) → body.wpIn (Fence.wide.inRound (w.heap.size + 1)) 0 P (roundsOn w.heap.size I Ix k W) F W)
    (hdone : ∀ W, I N W → W.heap[w.heap.size]? = some (.deferred (some [])) → Q .normal { a with defers := { target := .collected w.heap.size, args := #[] } :: a.defers } W)
    (hstop : ∀ c k W, k < N → Ix c k W → W.heap[w.heap.size]? = some (.deferred (some [])) → c.wpIn Fence.wide 0 P Q { a with defers := { target := .collected w.heap.size, args := #[] } :: a.defers } W) :
    (Code.rangeFunc g ps assign body).wpIn Fence.wide 0 P Q a w := by
 refine wpIn_rangeFunc fun fn hfn => ?_;let lp : LoopState → Option Code → Obj := fun Y U => .loop { state := Y, pending := U, fn, tmps := a.tmps, params := ps, assign, body, defers := w.heap.size }
 have J : ∀ {A B : World} {f : Option Nat} {Y : LoopState} {U : Option Code}, A.grownBy B f → (∀ r, f = some r → w.heap.size + 2 ≤ r ∧ ∃ o : Obj, A.heap[r]? = some o ∧ o.isCells = false) → A.heap[w.heap.size + 1]? = some (lp Y U) → A.heap[w.heap.size]? = some (.deferred (some [])) →
     B.heap[w.heap.size + 1]? = some (lp Y U) ∧ B.heap[w.heap.size]? = some (.deferred (some [])) := by
  intro A B f Y U i d S h2;have l1 := (ltH S);refine ⟨(i.block _ l1 fun e => ?_).trans S, (i.block _ (by omega) fun e => ?_).trans h2⟩
  ·have := (d _ e.symm).1;omega
  ·have := (d _ e.symm).1;omega
 have H : ∀ {A B : World} {f : Option Nat}, (∀ r, f = some r → w.heap.size + 2 ≤ r ∧ ∃ o : Obj, A.heap[r]? = some o ∧ o.isCells = false) → ∀ r, f = some r → w.heap.size ≤ r ∧ ∃ o : Obj, A.heap[r]? = some o ∧ o.isCells = false :=
  fun d r e => ⟨by have := (d r e).1; omega, (d r e).2⟩
 have Z : ((w.alloc (.deferred (some []))).alloc (lp .ready none)).heap.size = w.heap.size + 2 := by simp
 refine ⟨w.heap.size + 1, [{ target := .collected w.heap.size, args := #[] }], (w.alloc (.deferred (some []))).alloc (lp .ready none), { target := .fn (.func gf) lb, args := #[.func (.yield (w.heap.size + 1)) #[] #[]] }, (w.alloc (.deferred (some []))).alloc (lp .ready none), gf,
  #[.func (.yield (w.heap.size + 1)) #[] #[]] ++ lb, (w.alloc (.deferred (some []))).alloc (lp .ready none), run_enterLoop_outer _ _ _ _ _, ?_, fun _ _ => trivial, ?_, (fun h => by cases h), ?_⟩
 ·simp only [resolve, hg];simp [go_sem]
 ·have dA : ∀ args w, (callFunc gf args).run P w = .ok (.enter gf args) w := eg;simp [invoke, go_sem, dA]
 refine (it (w.heap.size + 1) (fun k W => I k W ∧ W.heap[w.heap.size + 1]? = some (lp .ready none) ∧ W.heap[w.heap.size]? = some (.deferred (some [])))
  (fun k W => ∃ c, Ix c k W ∧ W.heap[w.heap.size + 1]? = some (lp .done (some c)) ∧ W.heap[w.heap.size]? = some (.deferred (some []))) _ ?_ ?_ (fun k W h => hR k W h.1) ?_ ⟨?_, ?_, ?_⟩).mono ?_
 ·rintro k A B f ⟨S, h2, h3⟩ i d;rw [Z] at d;exact ⟨hI k A B f S i (H (B := B) d), J i d h2 h3⟩
 ·rintro k A B f ⟨c, S, h2, h3⟩ i d;rw [Z] at d;exact ⟨c, hIx c k A B f S i (H (B := B) d), J i d h2 h3⟩
 ·rintro k W hk ⟨O, C, L⟩;have y := (ltH C);refine ⟨fn, _, assign, body, run_yield C (hps k), roundIn_of_wpIn hfn (hassign k W _ hk O y ?_)⟩;clear O;intro F Wa m eA;replace C := (m.2 _ (by omega) y).trans C;replace L := (m.2 _ (Nat.le_refl _) (by omega)).trans L;clear y;replace m : Kept ((w.alloc (.deferred (some []))).alloc (lp .ready none)).heap.size W Wa := m.mono (by rw [Z]; omega);have bA : ∀ V o, Kept ((w.alloc (.deferred (some []))).alloc (lp .ready none)).heap.size V (V.putObj (w.heap.size + 1) o) := fun V o => Kept.put V o (by rw [Z]; omega);revert m
  generalize W = Wb;intro m;obtain ⟨W, rfl⟩ : ∃ W, W = Wa := ⟨_, rfl⟩;have y := (ltH C);refine ⟨_, run_beginRound C rfl, ?_⟩;have T : (W.putObj (w.heap.size + 1) (lp .busy none)).heap[w.heap.size + 1]? = some (lp .busy none) := World.putObj_heap_same y;have X : (W.putObj (w.heap.size + 1) (lp .busy none)).heap[w.heap.size]? = some (.deferred (some [])) := (World.putObj_heap_other (by omega)).trans L;refine wpIn_mono (hbody k F _ hk ((hA k F).putObj (s := ()) _ eA (by omega) C rfl) (by simpa using y) X ⟨_, T⟩) ?_;have G : ∀ (b : Option Code) (D : World), Kept w.heap.size (W.putObj (w.heap.size + 1) (lp .busy none)) D →
      Kept ((w.alloc (.deferred (some []))).alloc (lp .ready none)).heap.size Wb (D.putObj (w.heap.size + 1) (lp (if b.isNone then .ready else .done) b)) ∧
      (Instr.endRound (w.heap.size + 1) b).run P D = .ok (.bool b.isNone) (D.putObj (w.heap.size + 1) (lp (if b.isNone then .ready else .done) b)) ∧ D.heap[w.heap.size + 1]? = some (lp .busy none) ∧
      (D.putObj (w.heap.size + 1) (lp (if b.isNone then .ready else .done) b)).heap[w.heap.size + 1]? = some (lp (if b.isNone then .ready else .done) b) ∧
      (D.putObj (w.heap.size + 1) (lp (if b.isNone then .ready else .done) b)).heap[w.heap.size]? = some (.deferred (some [])) := by
   intro b D E;have e2 := (E.2 _ (by omega) (by simpa using y)).trans T;have e1 := (E.2 _ (Nat.le_refl _) (by simp; omega)).trans X;exact ⟨((m.trans (bA _ _)).trans (E.mono (by rw [Z]; omega))).trans (bA _ _), run_endRound b e2, e2, World.putObj_heap_same (ltH e2), (World.putObj_heap_other (by omega)).trans e1⟩
  intro e a3 D M;cases e with
  | normal =>
   obtain ⟨E, z⟩ := M;obtain ⟨q, d, l, n, j⟩ := G none D E;exact ⟨_, _, d, q, .inl ⟨rfl, hI.putObj _ z (by omega) l rfl, n, j⟩⟩
  | ret =>
   obtain ⟨E, z⟩ := M;obtain ⟨q, d, l, n, j⟩ := G (some .ret) D E;exact ⟨_, _, d, q, .inr ⟨rfl, .ret, (hIx _).putObj _ z (by omega) l rfl, n, j⟩⟩
  | exit id =>
   obtain ⟨E, z⟩ := M;obtain ⟨q, d, l, n, j⟩ := G (some (.exit id)) D E;exact ⟨_, _, d, q, .inr ⟨rfl, .exit id, (hIx _).putObj _ z (by omega) l rfl, n, j⟩⟩
  | goto t =>
   obtain ⟨E, z⟩ := M;obtain ⟨q, d, l, n, j⟩ := G (some (.goto t)) D E;exact ⟨_, _, d, q, .inr ⟨rfl, .goto t, (hIx _).putObj _ z (by omega) l rfl, n, j⟩⟩
  | panic ch => exact M.elim
  | outgrown => exact M.elim
 ·exact hI.alloc _ (hI.alloc _ h0)
 ·have := World.alloc_heap_new (w.alloc (.deferred (some []))) (lp .ready none);rwa [World.size_alloc] at this
 ·exact (Below.heap_alloc _ _ _ (by simp)).trans (World.alloc_heap_new w _)
 ·rintro e W ⟨⟨v, rfl⟩, ⟨O, C, L⟩ | ⟨k, hk, c, O, C, L⟩⟩
  ·exact ⟨none, _, run_endLoop C (by simp), hdone _ (hI.putObj _ O (by omega) C rfl) ((World.putObj_heap_other (by omega)).trans L)⟩
  ·exact ⟨some c, _, run_endLoop C (by simp), hstop c k _ hk ((hIx c).putObj _ O (by omega) C rfl) ((World.putObj_heap_other (by omega)).trans L)⟩
end
end Go.Proofs.YtdamokokcdcedaaGreatDoor
