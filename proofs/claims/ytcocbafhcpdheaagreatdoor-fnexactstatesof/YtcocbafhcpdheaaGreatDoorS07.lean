import Derived.Test.YtcocbafhcpdheaaGreatDoorS00Box
import Derived.RangeFuncNested
import Derived.RangeFuncBound
import Derived.RangeFuncLeaves
import Derived.Shelf.Abstract
import Derived.Test.YtcocbafhcpdheaaGreatDoorS06
import Derived.RangeFuncCalls
import Derived.Shelf.RegionOpen
import Derived.OwnWalkIn
import Derived.TacticsInMore
import Derived.LoopNIn
import Derived.LoopIn
namespace Go.Proofs.YtcocbafhcpdheaaGreatDoor
set_option maxHeartbeats 4000000
open Go.ChangeShapes Go.WideShapes Go.ChangeAt Go.RowKit Go.Shelf
set_option linter.unusedVariables false
section
variable {P : Program}
def Kept (B : Nat) (W W' : World) : Prop := W.heap.size ≤ W'.heap.size ∧ ∀ k, B ≤ k → k < W.heap.size → W'.heap[k]? = W.heap[k]?
theorem Kept.refl (B : Nat) (W : World) : Kept B W W := ⟨Nat.le_refl _, fun _ _ _ => rfl⟩
theorem Kept.trans {B : Nat} {U V W : World} (h : Kept B U V) (k : Kept B V W) : Kept B U W := ⟨Nat.le_trans h.1 k.1, fun i hi hl => (k.2 i hi (Nat.lt_of_lt_of_le hl h.1)).trans (h.2 i hi hl)⟩
theorem Kept.mono {B B' : Nat} {W W' : World} (h : Kept B W W') (hb : B ≤ B') : Kept B' W W' := ⟨h.1, fun i hi hl => h.2 i (Nat.le_trans hb hi) hl⟩
theorem Kept.below {B : Nat} {W W' : World} (h : Below W.heap.size W W') : Kept B W W' := ⟨h.size, fun i _ hl => h.block i hl⟩
theorem Kept.chg {B : Nat} {S : Foot} {W W' : World} (h : Chg S W W') (hS : ∀ k, S k → k < B) : Kept B W W' := ⟨h.size, fun i hi hl => h.block i hl fun x => by have := hS i x; omega⟩
theorem Kept.alloc (B : Nat) (W : World) (o : Obj) : Kept B W (W.alloc o) := ⟨by simp, fun i _ hl => Below.heap_alloc W o i hl⟩
theorem Kept.put {B l : Nat} (W : World) (o : Obj) (h : l < B) : Kept B W (W.putObj l o) := ⟨by simp, fun i hi _ => World.putObj_heap_other (by omega)⟩
theorem own_later {β : Type} {B B' : Nat} {I : β → World → Prop} (h : OwnFrom B I) (hb : B ≤ B') : OwnFrom B' I := fun s W W' row hs hg hr => h s W W' row hs hg (fun r e => ⟨Nat.le_trans hb (hr r e).1, (hr r e).2⟩)
theorem own_heap {β : Type} (B k : Nat) (cs : Array Value) (t : TypeId) : OwnFrom B (fun (_ : β) W => W.heap[k]? = some (.cells cs t (0, 0))) := fun s X Y row hs hg hr => by
 refine (hg.block k (ltH hs) fun e => ?_).trans hs;obtain ⟨o, a, b⟩ := (hr k e.symm).2;rw [hs] at a;cases a;cases b
def Iter (P : Program) (g : Nat) (lb : Array Value) (args : Nat → Array Value) (N : Nat) (R : World → Prop) : Prop :=
 ∀ (l : Nat) (J Jx : Nat → World → Prop) (W : World), OwnFrom W.heap.size J → OwnFrom W.heap.size Jx → (∀ k W1, J k W1 → R W1) →
  (∀ k W1, k < N → J k W1 → YieldAt Fence.wide 0 P l (args k) W1 fun e W' => Kept W.heap.size W1 W' ∧ ((e = .returned (.bool true) ∧ J (k + 1) W') ∨ (e = .returned (.bool false) ∧ Jx k W'))) →
  J 0 W → CallsIn Fence.wide 0 P g (#[.func (.yield l) #[] #[]] ++ lb) W fun e W' => (∃ v, e = .returned v) ∧ (J N W' ∨ ∃ k, k < N ∧ Jx k W')
def roundsOn (B : Nat) (I : Nat → World → Prop) (Ix : Code → Nat → World → Prop) (k : Nat) (W : World) : Exit → Act → World → Prop
 | .normal, _, W' => Kept B W W' ∧ I (k + 1) W'
 | .ret, _, W' => Kept B W W' ∧ Ix .ret k W'
 | .exit id, _, W' => Kept B W W' ∧ Ix (.exit id) k W'
 | .goto t, _, W' => Kept B W W' ∧ Ix (.goto t) k W'
 | .panic _, _, _ => False
 | .outgrown, _, _ => False
theorem range_iter {g : Operand} {ps : Array Tmp} {assign body : Code} {Q : Exit → Act → World → Prop} {a : Act} {w : World} {gf : Nat} {lb : Array Value}
    (hg : a.eval g = .func (.func gf) #[] lb) (eg : Enters P gf)
    {args : Nat → Array Value} {N : Nat} {R : World → Prop} (it : Iter P gf lb args N R) (hps : ∀ k, (args k).size = ps.size)
    (I : Nat → World → Prop) (Ix : Code → Nat → World → Prop) (hI : OwnFrom w.heap.size I) (hIx : ∀ c, OwnFrom w.heap.size (Ix c)) (hR : ∀ k W, I k W → R W) (h0 : I 0 w) (A : Nat → Act → World → Prop) (hA : ∀ k F, OwnFrom w.heap.size (fun (_ : Unit) W => A k F W))
    (hassign : ∀ (k : Nat) (W : World) (K : Act → World → Prop), k < N → I k W → w.heap.size + 1 < W.heap.size → (∀ F W', Kept w.heap.size W W' → A k F W' → K F W') → assign.wpIn (Fence.wide.inRound (w.heap.size + 1)) 0 P (Exit.then K (fun _ _ _ => False)) { tmps := (ps.zip (args k)).foldl (fun t (p, v) => t.setIfInBounds p v) a.tmps, defers := [] } W)
    (hbody : ∀ (k : Nat) (F : Act) (W : World), k < N → A k F W → w.heap.size + 1 < W.heap.size → W.heap[w.heap.size]? = some (.deferred (some [])) → (∃ r, W.heap[w.heap.size + 1]? = some (.loop r)) → body.wpIn (Fence.wide.inRound (w.heap.size + 1)) 0 P (roundsOn w.heap.size I Ix k W) F W)
    (hdone : ∀ W, I N W → W.heap[w.heap.size]? = some (.deferred (some [])) → Q .normal { a with defers := { target := .collected w.heap.size, args := #[] } :: a.defers } W)
    (hstop : ∀ c k W, k < N → Ix c k W → W.heap[w.heap.size]? = some (.deferred (some [])) → c.wpIn Fence.wide 0 P Q { a with defers := { target := .collected w.heap.size, args := #[] } :: a.defers } W) :
    (Code.rangeFunc g ps assign body).wpIn Fence.wide 0 P Q a w := by
 refine wpIn_rangeFunc fun fn hfn => ?_;let lp : LoopState → Option Code → Obj := fun X pe => .loop { state := X, pending := pe, fn, tmps := a.tmps, params := ps, assign, body, defers := w.heap.size }
 have J : ∀ {A B : World} {d : Option Nat} {X : LoopState} {pe : Option Code}, A.grownBy B d → (∀ r, d = some r → w.heap.size + 2 ≤ r ∧ ∃ o : Obj, A.heap[r]? = some o ∧ o.isCells = false) → A.heap[w.heap.size + 1]? = some (lp X pe) → A.heap[w.heap.size]? = some (.deferred (some [])) →
     B.heap[w.heap.size + 1]? = some (lp X pe) ∧ B.heap[w.heap.size]? = some (.deferred (some [])) := by
  intro A B d X pe i f O T;have l1 := (ltH O);refine ⟨(i.block _ l1 fun e => ?_).trans O, (i.block _ (by omega) fun e => ?_).trans T⟩
  ·have := (f _ e.symm).1;omega
  ·have := (f _ e.symm).1;omega
 have H : ∀ {A B : World} {d : Option Nat}, (∀ r, d = some r → w.heap.size + 2 ≤ r ∧ ∃ o : Obj, A.heap[r]? = some o ∧ o.isCells = false) → ∀ r, d = some r → w.heap.size ≤ r ∧ ∃ o : Obj, A.heap[r]? = some o ∧ o.isCells = false :=
  fun f r e => ⟨by have := (f r e).1; omega, (f r e).2⟩
 have U : ((w.alloc (.deferred (some []))).alloc (lp .ready none)).heap.size = w.heap.size + 2 := by simp
 refine ⟨w.heap.size + 1, [{ target := .collected w.heap.size, args := #[] }], (w.alloc (.deferred (some []))).alloc (lp .ready none), { target := .fn (.func gf) lb, args := #[.func (.yield (w.heap.size + 1)) #[] #[]] }, (w.alloc (.deferred (some []))).alloc (lp .ready none), gf,
  #[.func (.yield (w.heap.size + 1)) #[] #[]] ++ lb, (w.alloc (.deferred (some []))).alloc (lp .ready none), run_enterLoop_outer _ _ _ _ _, ?_, fun _ _ => trivial, ?_, (fun h => by cases h), ?_⟩
 ·simp only [resolve, hg];simp [go_sem]
 ·have eA : ∀ args w, (callFunc gf args).run P w = .ok (.enter gf args) w := eg;simp [invoke, go_sem, eA]
 refine (it (w.heap.size + 1) (fun k W => I k W ∧ W.heap[w.heap.size + 1]? = some (lp .ready none) ∧ W.heap[w.heap.size]? = some (.deferred (some [])))
  (fun k W => ∃ c, Ix c k W ∧ W.heap[w.heap.size + 1]? = some (lp .done (some c)) ∧ W.heap[w.heap.size]? = some (.deferred (some []))) _ ?_ ?_ (fun k W h => hR k W h.1) ?_ ⟨?_, ?_, ?_⟩).mono ?_
 ·rintro k A B d ⟨O, T, h3⟩ i f;rw [U] at f;exact ⟨hI k A B d O i (H (B := B) f), J i f T h3⟩
 ·rintro k A B d ⟨c, O, T, h3⟩ i f;rw [U] at f;exact ⟨c, hIx c k A B d O i (H (B := B) f), J i f T h3⟩
 ·rintro k W hk ⟨S, D, L⟩;have j := (ltH D);refine ⟨fn, _, assign, body, run_yield D (hps k), roundIn_of_wpIn hfn (hassign k W _ hk S j ?_)⟩;clear S;intro F Wa m fA;replace D := (m.2 _ (by omega) j).trans D;replace L := (m.2 _ (Nat.le_refl _) (by omega)).trans L;clear j;replace m : Kept ((w.alloc (.deferred (some []))).alloc (lp .ready none)).heap.size W Wa := m.mono (by rw [U]; omega);have bA : ∀ V o, Kept ((w.alloc (.deferred (some []))).alloc (lp .ready none)).heap.size V (V.putObj (w.heap.size + 1) o) := fun V o => Kept.put V o (by rw [U]; omega);revert m
  generalize W = Wb;intro m;obtain ⟨W, rfl⟩ : ∃ W, W = Wa := ⟨_, rfl⟩;have j := (ltH D);refine ⟨_, run_beginRound D rfl, ?_⟩;have Y : (W.putObj (w.heap.size + 1) (lp .busy none)).heap[w.heap.size + 1]? = some (lp .busy none) := World.putObj_heap_same j;have Z : (W.putObj (w.heap.size + 1) (lp .busy none)).heap[w.heap.size]? = some (.deferred (some [])) := (World.putObj_heap_other (by omega)).trans L;refine wpIn_mono (hbody k F _ hk ((hA k F).putObj (s := ()) _ fA (by omega) D rfl) (by simpa using j) Z ⟨_, Y⟩) ?_;have G : ∀ (b : Option Code) (C : World), Kept w.heap.size (W.putObj (w.heap.size + 1) (lp .busy none)) C →
      Kept ((w.alloc (.deferred (some []))).alloc (lp .ready none)).heap.size Wb (C.putObj (w.heap.size + 1) (lp (if b.isNone then .ready else .done) b)) ∧
      (Instr.endRound (w.heap.size + 1) b).run P C = .ok (.bool b.isNone) (C.putObj (w.heap.size + 1) (lp (if b.isNone then .ready else .done) b)) ∧ C.heap[w.heap.size + 1]? = some (lp .busy none) ∧
      (C.putObj (w.heap.size + 1) (lp (if b.isNone then .ready else .done) b)).heap[w.heap.size + 1]? = some (lp (if b.isNone then .ready else .done) b) ∧
      (C.putObj (w.heap.size + 1) (lp (if b.isNone then .ready else .done) b)).heap[w.heap.size]? = some (.deferred (some [])) := by
   intro b C E;have e2 := (E.2 _ (by omega) (by simpa using j)).trans Y;have e1 := (E.2 _ (Nat.le_refl _) (by simp; omega)).trans Z;exact ⟨((m.trans (bA _ _)).trans (E.mono (by rw [U]; omega))).trans (bA _ _), run_endRound b e2, e2, World.putObj_heap_same (ltH e2), (World.putObj_heap_other (by omega)).trans e1⟩
  intro e a3 C M;cases e with
  | normal =>
   obtain ⟨E, q⟩ := M;obtain ⟨l, f, y, n, z⟩ := G none C E;exact ⟨_, _, f, l, .inl ⟨rfl, hI.putObj _ q (by omega) y rfl, n, z⟩⟩
  | ret =>
   obtain ⟨E, q⟩ := M;obtain ⟨l, f, y, n, z⟩ := G (some .ret) C E;exact ⟨_, _, f, l, .inr ⟨rfl, .ret, (hIx _).putObj _ q (by omega) y rfl, n, z⟩⟩
  | exit id =>
   obtain ⟨E, q⟩ := M;obtain ⟨l, f, y, n, z⟩ := G (some (.exit id)) C E;exact ⟨_, _, f, l, .inr ⟨rfl, .exit id, (hIx _).putObj _ q (by omega) y rfl, n, z⟩⟩
  | goto t =>
   obtain ⟨E, q⟩ := M;obtain ⟨l, f, y, n, z⟩ := G (some (.goto t)) C E;exact ⟨_, _, f, l, .inr ⟨rfl, .goto t, (hIx _).putObj _ q (by omega) y rfl, n, z⟩⟩
  | panic ch => exact M.elim
  | outgrown => exact M.elim
 ·exact hI.alloc _ (hI.alloc _ h0)
 ·have := World.alloc_heap_new (w.alloc (.deferred (some []))) (lp .ready none);rwa [World.size_alloc] at this
 ·exact (Below.heap_alloc _ _ _ (by simp)).trans (World.alloc_heap_new w _)
 ·rintro e W ⟨⟨v, rfl⟩, ⟨S, D, L⟩ | ⟨k, hk, c, S, D, L⟩⟩
  ·exact ⟨none, _, run_endLoop D (by simp), hdone _ (hI.putObj _ S (by omega) D rfl) ((World.putObj_heap_other (by omega)).trans L)⟩
  ·exact ⟨some c, _, run_endLoop D (by simp), hstop c k _ hk ((hIx c).putObj _ S (by omega) D rfl) ((World.putObj_heap_other (by omega)).trans L)⟩
end
open Go.RowKit
abbrev WayD := Int × Int × List Int
abbrev CacheD := List (List WayD) × List Int
def emptyW : WayD := (-1, 0, [])
def clearB (u : WayD) : Bool := decide (u.1 = -1 ∧ u.2.1 = 0 ∧ u.2.2 = [])
def pow3 (n : Nat) : Prop := n = 1 ∨ n = 2 ∨ n = 4
section
variable (ln : List Int → Bool) (tok : Int → Int → Bool) (tou : Int → Int → Int → Int) (vic : Int → Int → Int)
def fullB (u : WayD) : Bool := decide ((0 ≤ u.1 ∧ u.1 ≤ 15) ∧ (1 ≤ u.2.1 ∧ u.2.1 ≤ 3) ∧ ln u.2.2 = true)
def RowOk (n s : Nat) (row : List WayD) : Prop :=
 (∀ (i : Nat) (u : WayD), row[i]? = some u → clearB u = true ∨ (fullB ln u = true ∧ u.1 % (n : Int) = s)) ∧
 ∀ (i k : Nat) (u x : WayD), row[i]? = some u → row[k]? = some x → 0 ≤ u.1 → u.1 = x.1 → i = k
def OkC (c : CacheD) : Prop :=
 pow3 c.1.length ∧ c.2.length = c.1.length ∧ ∃ m, pow3 m ∧ ∀ (s : Nat) (row : List WayD), c.1[s]? = some row → row.length = m ∧ (∃ t, c.2[s]? = some t ∧ tok t m = true) ∧ RowOk ln c.1.length s row
def setNo (c : CacheD) (line : Int) : Nat := (line % (c.1.length : Int)).toNat
def rowFor (c : CacheD) (line : Int) : List WayD := c.1.getD (setNo c line) []
def atC (c : CacheD) (line : Int) : Option Nat := if line < 0 then none else (rowFor c line).findIdx? fun u => u.1 == line
def roomC (c : CacheD) (line : Int) : Option Nat := (rowFor c line).findIdx? clearB
def putNo (c : CacheD) (line : Int) : Option Nat := match atC c line with
 | some i => some i
 | none => roomC c line
open Classical in
noncomputable def okB (c : CacheD) : Bool := decide (OkC ln tok c)
noncomputable def findC (c : CacheD) (line : Int) : WayD × Int := if okB ln tok c then (match atC c line with
 | some i => ((rowFor c line).getD i emptyW, (i : Int))
 | none => (emptyW, -1)) else (emptyW, -1)
end
section
variable {ln : List Int → Bool} {tok : Int → Int → Bool} {tou : Int → Int → Int → Int} {vic : Int → Int → Int}
theorem okB_iff {c : CacheD} : okB ln tok c = true ↔ OkC ln tok c := by simp [okB]
theorem clear_eq {u : WayD} (h : clearB u = true) : u = emptyW := by
 simp [clearB] at h
 obtain ⟨a, b, d⟩ := u;simp at h
 simp [emptyW, h]
theorem full_line {u : WayD} (h : fullB ln u = true) : 0 ≤ u.1 ∧ u.1 ≤ 15 := by
 simp [fullB] at h
 exact h.1
theorem pow3_pos {n : Nat} (h : pow3 n) : 0 < n := by rcases h with h | h | h <;> omega
theorem setNo_lt {c : CacheD} {line : Int} (h : pow3 c.1.length) : setNo c line < c.1.length := by
 have := pow3_pos h;have h1 := Int.emod_nonneg line (show (c.1.length : Int) ≠ 0 by omega);have h2 := Int.emod_lt_of_pos line (show (0 : Int) < c.1.length by omega);unfold setNo;omega
theorem setNo_cast {c : CacheD} {line : Int} (h : pow3 c.1.length) : ((setNo c line : Nat) : Int) = line % (c.1.length : Int) := by
 have := pow3_pos h;have h1 := Int.emod_nonneg line (show (c.1.length : Int) ≠ 0 by omega);unfold setNo;omega
theorem rowFor_get {c : CacheD} {line : Int} (h : pow3 c.1.length) : c.1[setNo c line]? = some (rowFor c line) := by
 have := setNo_lt (line := line) h;unfold rowFor;rw [List.getD_eq_getElem?_getD, List.getElem?_eq_getElem this];rfl
theorem idx_some {p : WayD → Bool} {row : List WayD} {i : Nat} (h : row.findIdx? p = some i) : ∃ u, row[i]? = some u ∧ p u = true := by
 rw [List.findIdx?_eq_some_iff_getElem] at h;obtain ⟨a, b, _⟩ := h;exact ⟨row[i], List.getElem?_eq_getElem a, b⟩
theorem at_some {c : CacheD} {line : Int} {i : Nat} (h : atC c line = some i) : 0 ≤ line ∧ ∃ u, (rowFor c line)[i]? = some u ∧ u.1 = line := by
 unfold atC at h;split at h
 ·cases h
 ·obtain ⟨u, b, d⟩ := idx_some h;exact ⟨by omega, u, b, by simpa using d⟩
theorem getD_of {row : List WayD} {i : Nat} {u : WayD} (h : row[i]? = some u) : row.getD i emptyW = u := by
 rw [List.getD_eq_getElem?_getD, h];rfl
theorem find_none {c : CacheD} {l : Int} (h : atC c l = none) : findC ln tok c l = (emptyW, -1) := by
 unfold findC;rw [h];split <;> rfl
theorem find_some {c : CacheD} {l : Int} {i : Nat} {u : WayD} (h : OkC ln tok c) (ha : atC c l = some i) (hu : (rowFor c l)[i]? = some u) : findC ln tok c l = (u, (i : Int)) := by
 unfold findC;rw [if_pos (okB_iff.2 h), ha];simp only [getD_of hu]
end
attribute [local go_sem] Oper.semAt_some
structure WCells where
 line : Int
 state : Int
 addr : Option Addr
 len : Nat
 cap : Nat
abbrev WCells.agg (c : WCells) : Value := .agg #[.int .i64 c.line, .int .i64 c.state, .slice c.addr c.len c.cap]
def RowAt (W : World) (b off n : Nat) (c : Nat → WCells) : Prop :=
 ∀ k, k < n → W.cell? ⟨b, off + k * 3, none⟩ = some (.int .i64 (c k).line) ∧ W.cell? ⟨b, off + k * 3 + 1, none⟩ = some (.int .i64 (c k).state) ∧ W.cell? ⟨b, off + k * 3 + 2, none⟩ = some (.slice (c k).addr (c k).len (c k).cap)
theorem waysOf1_iter (Bs b off n cap : Nat) (c : Nat → WCells) (hn : n ≤ 1048576) :
    Iter Tryz.prog 271 #[.pointer (some ⟨Bs, 0, none⟩)] (fun k => #[.int .i64 k, (c k).agg]) n
     (fun W => W.cell? ⟨Bs, 0, none⟩ = some (.slice (some ⟨b, off, none⟩) n cap) ∧ RowAt W b off n c) := by
 intro l J Jx W z v q y o;obtain ⟨r0, _⟩ := q 0 W o;refine callsIn_of_wp Tryz.func271 rfl trivial ?_ rfl;simp only [Tryz.ntmps271, List.size_toArray, List.length_cons, List.length_nil, Nat.reduceAdd, Nat.reduceSub, Array.replicate_succ, Array.replicate_zero, List.push_toArray, List.append_toArray, List.nil_append, List.cons_append];gi_wp2
 gi_loopw [7] (fun p wr => ∃ k : Nat, k ≤ n ∧ p = .int .i64 k ∧ J k wr) (fun p _ => n - (intOf p).toNat)
 case atStart => exact ⟨0, Nat.zero_le _, rfl, o⟩
 case round =>
  obtain ⟨k, hk, rfl, j⟩ := hrel;by_cases a : k < n
  ·have s : (k : Int) < (n : Int) := by omega
   obtain ⟨q0, A⟩ := q k wr j;obtain ⟨c0, c1, c2⟩ := A k a;obtain ⟨fn, r, d, m, hy, f⟩ := y k (wr.alloc (.cells #[.int .i64 (c k).line, .int .i64 (c k).state, .slice (c k).addr (c k).len (c k).cap] 88)) a (z.alloc _ j);gi_wp2
   refine ⟨rfl, f.mono ?_⟩;rintro e W3 ⟨_, ⟨rfl, i⟩ | ⟨rfl, g⟩⟩
   ·gi_wp2
    go_roundw
    case rel => exact ⟨k + 1, by omega, by go_num, i⟩
    case measure => simp [intOf]; omega
   ·gi_wp2
    refine bodyPost_ret (results_none rfl _ _ _) rfl ?_;exact ⟨⟨_, rfl⟩, .inr ⟨k, a, g⟩⟩
  ·gi_wp2
   go_end0
   exact ⟨⟨_, rfl⟩, .inl (by have : k = n := by omega
                             subst this; exact j)⟩
attribute [local go_sem] Oper.semAt_some
theorem rowAt_of {w : World} {a : Option Addr} {row : List WayD} (h : SlRd wayR w a row) (hne : row ≠ []) :
    ∃ b d c, a = some ⟨b, d, none⟩ ∧ RowAt w b d row.length c ∧ ∀ k u, row[k]? = some u → (c k).line = u.1 ∧ (c k).state = u.2.1 ∧ (c k).len = u.2.2.length ∧ u.2.2.length ≤ (c k).cap ∧ (c k).cap ≤ maxLen ∧ SlRd intR w (c k).addr u.2.2 := by
 have j := h;rcases j with j | ⟨b, d, n, rfl, _, _⟩
 ·exact absurd j hne
 have g : ∀ k : Nat, ∃ x : WCells, ∀ u, row[k]? = some u → (w.cell? ⟨b, d + k * 3, none⟩ = some (.int .i64 x.line) ∧ w.cell? ⟨b, d + k * 3 + 1, none⟩ = some (.int .i64 x.state) ∧ w.cell? ⟨b, d + k * 3 + 2, none⟩ = some (.slice x.addr x.len x.cap)) ∧
     x.line = u.1 ∧ x.state = u.2.1 ∧ x.len = u.2.2.length ∧ u.2.2.length ≤ x.cap ∧ x.cap ≤ maxLen ∧ SlRd intR w x.addr u.2.2 := by
  intro k;cases l : row[k]? with
  | none => exact ⟨⟨0, 0, none, 0, 0⟩, fun u hu => by cases hu⟩
  | some u =>
   obtain ⟨b', m, cs, q, i, f⟩ := slrd_at h l;cases q;obtain ⟨r, cap, rfl, i1, i2, s, p, v⟩ := way_rd i;refine ⟨⟨u.1, u.2.1, r, u.2.2.length, cap⟩, fun u' hu => ?_⟩;cases hu;exact ⟨⟨f 0 _ rfl, f 1 _ rfl, f 2 _ rfl⟩, rfl, rfl, rfl, s, p, v⟩
 obtain ⟨c, o⟩ := Classical.axiomOfChoice g;refine ⟨b, d, c, rfl, fun k l => (o k _ (List.getElem?_eq_getElem l)).1, fun k u hu => (o k u hu).2⟩
theorem rowAt_below {w w' : World} {b off n D : Nat} {c : Nat → WCells} (h : RowAt w b off n c) (hb : Below D w w') (hD : ∀ k, k < n → b < D) : RowAt w' b off n c := fun k hk => by
 obtain ⟨g, d, f⟩ := h k hk;have := hb.block b (hD k hk);exact ⟨(World.cell?_of_block (w := w) (a := ⟨b, _, none⟩) this).trans g, (World.cell?_of_block (w := w) (a := ⟨b, _, none⟩) this).trans d, (World.cell?_of_block (w := w) (a := ⟨b, _, none⟩) this).trans f⟩
theorem rowAt_lt {w : World} {b off n : Nat} {c : Nat → WCells} (h : RowAt w b off n c) (hn : 0 < n) : b < w.heap.size := World.block_lt_of_cell? w _ (h 0 hn).1
def firstI (row : List WayD) (line : Int) : Int := match row.findIdx? fun u => u.1 == line with
 | some i => (i : Int)
 | none => -1
theorem firstI_some {row : List WayD} {line : Int} {c : Nat → WCells} {k : Nat} {u : WayD} (hu : row[k]? = some u) (hl : u.1 = line) (hno : ∀ j u, j < k → row[j]? = some u → u.1 ≠ line) : firstI row line = k := by
 have a := (List.getElem?_eq_some_iff.1 hu).1;have : row.findIdx? (fun u => u.1 == line) = some k := by
  rw [List.findIdx?_eq_some_iff_getElem];refine ⟨a, ?_, fun j hj => ?_⟩
  ·rw [List.getElem?_eq_getElem a] at hu;cases hu;simpa using hl
  ·simpa using hno j _ hj (List.getElem?_eq_getElem (by omega))
 unfold firstI;rw [this]
theorem firstI_none {row : List WayD} {line : Int} (hno : ∀ (j : Nat) (u : WayD), row[j]? = some u → u.1 ≠ line) : firstI row line = -1 := by
 have : row.findIdx? (fun u => u.1 == line) = none := by
  rw [List.findIdx?_eq_none_iff];intro u a;obtain ⟨j, b⟩ := List.mem_iff_getElem?.1 a;simpa using hno j u b
 unfold firstI;rw [this]
theorem waysOf_any (v : Value) (a : Option Addr) (n cap : Nat) (hv : v = .slice a n cap) (w : World) :
    Calls Tryz.prog 254 #[v] w fun e w' => e = .returned (.func (.func 271) #[] #[.pointer (some ⟨w.heap.size, 0, none⟩)]) ∧ w' = w.alloc (.cells #[v] 143) := by
 subst hv;go_enter Tryz.func254, Tryz.ntmps254;go_wp2;go_ret
 exact ⟨rfl, rfl⟩
theorem firstWith_any (a : Option Addr) (row : List WayD) (cap : Nat) (line : Int) (w : World) (h : SlRd wayR w a row) (hne : row ≠ []) (hm : row.length ≤ 1048576) :
    Calls Tryz.prog 237 #[.slice a row.length cap, .int .i64 line] w fun e w' => e = .returned (.int .i64 (firstI row line)) ∧ Below w.heap.size w w' := by
 obtain ⟨b, d, c, rfl, q, hc⟩ := rowAt_of h hne;have G : 0 < row.length := List.length_pos_iff.2 hne;have I := rowAt_lt q G;have HC : Hid (∀ (k : Nat) (u : WayD), row[k]? = some u → (c k).line = u.1) := fun k u m => (hc k u m).1;clear h hc;refine (callsIn_wide (n := 0)).1 ?_;refine callsIn_of_wp_marks Tryz.func237 rfl trivial ?_ rfl;simp only [Tryz.ntmps237, List.size_toArray, List.length_cons, List.length_nil, Nat.reduceAdd, Nat.reduceSub, Array.replicate_succ, Array.replicate_zero, List.push_toArray, List.append_toArray, List.nil_append, List.cons_append];gi_wp2
 refine ⟨trivial, rfl, (callsIn_wide.2 (waysOf_any _ _ _ _ rfl _)).mono ?_⟩;rintro e w' ⟨rfl, rfl⟩;gi_wp2
 have e1 : (w.alloc (.cells #[.int .i64 line] 2)).heap.size = w.heap.size + 1 := by simp
 have e2 : ((w.alloc (.cells #[.int .i64 line] 2)).alloc (.cells #[.int .i64 0] 2)).heap.size = w.heap.size + 1 + 1 := by simp
 have k0 := heap_at w (.cells #[.int .i64 line] 2);have U := heap_at (w.alloc (.cells #[.int .i64 line] 2)) (.cells #[.int .i64 0] 2);have R := heap_at ((w.alloc (.cells #[.int .i64 line] 2)).alloc (.cells #[.int .i64 0] 2)) (.cells #[.slice (some ⟨b, d, none⟩) row.length cap] 143);rw [e1] at U;rw [e2] at R;have H := heap_on (.cells #[.slice (some ⟨b, d, none⟩) row.length cap] 143) (heap_on (.cells #[.int .i64 0] 2) k0);have D := heap_on (.cells #[.slice (some ⟨b, d, none⟩) row.length cap] 143) U;have F : Below w.heap.size w (((w.alloc (.cells #[.int .i64 line] 2)).alloc (.cells #[.int .i64 0] 2)).alloc (.cells #[.slice (some ⟨b, d, none⟩) row.length cap] 143)) :=
  (((Below.refl _ w).alloc (Nat.le_refl _) _).alloc (by simp) _).alloc (by simp; omega) _
 clear k0 U;have e3 : (((w.alloc (.cells #[.int .i64 line] 2)).alloc (.cells #[.int .i64 0] 2)).alloc (.cells #[.slice (some ⟨b, d, none⟩) row.length cap] 143)).heap.size = w.heap.size + 1 + 1 + 1 := by simp
 generalize (((w.alloc (.cells #[.int .i64 line] 2)).alloc (.cells #[.int .i64 0] 2)).alloc (.cells #[.slice (some ⟨b, d, none⟩) row.length cap] 143)) = W0 at H D R F e3 ⊢;clear e1 e2;refine range_iter (N := row.length) (lb := #[.pointer (some ⟨w.heap.size + 1 + 1, 0, none⟩)]) (gf := 271) rfl (enters_of Tryz.func271 (by kernel_rfl) rfl)
  (waysOf1_iter (w.heap.size + 1 + 1) b d row.length cap c hm) (fun _ => rfl)
  (fun k W => (∀ j u, j < k → row[j]? = some u → u.1 ≠ line) ∧ W.heap[w.heap.size]? = some (.cells #[.int .i64 line] 2 (0, 0)) ∧ W.heap[w.heap.size + 1]? = some (.cells #[.int .i64 0] 2 (0, 0)) ∧ W.heap[w.heap.size + 1 + 1]? = some (.cells #[.slice (some ⟨b, d, none⟩) row.length cap] 143 (0, 0)) ∧ Below w.heap.size w W)
  (fun x k W => x = .ret ∧ firstI row line = k ∧ W.heap[w.heap.size + 1]? = some (.cells #[.int .i64 k] 2 (0, 0)) ∧ Below w.heap.size w W)
  ?hI ?hIx ?hR ?h0
  (fun k V W => ∃ B, W0.heap.size < B ∧ W.heap[B]? = some (.cells #[.int .i64 (c k).line, .int .i64 (c k).state, .slice (c k).addr (c k).len (c k).cap] 88 (0, 0)) ∧ (∀ j u, j < k → row[j]? = some u → u.1 ≠ line) ∧ W.heap[w.heap.size]? = some (.cells #[.int .i64 line] 2 (0, 0)) ∧ W.heap[w.heap.size + 1]? = some (.cells #[.int .i64 0] 2 (0, 0)) ∧ W.heap[w.heap.size + 1 + 1]? = some (.cells #[.slice (some ⟨b, d, none⟩) row.length cap] 143 (0, 0)) ∧ Below w.heap.size w W ∧
   V = { tmps := #[.slice (some ⟨b, d, none⟩) row.length cap, .int .i64 line, undef, .pointer (some ⟨w.heap.size, 0, none⟩), .pointer (some ⟨w.heap.size + 1, 0, none⟩), .int .i64 k, .pointer (some ⟨B, 0, none⟩), .slice (some ⟨b, d, none⟩) row.length cap, .func (.func 271) #[] #[.pointer (some ⟨w.heap.size + 1 + 1, 0, none⟩)], .int .i64 k, (c k).agg, undef, undef, undef, undef, undef], defers := [] })
  ?hA ?hassign ?hbody ?hdone ?hstop
 case hI => exact OwnFrom.and (ownFrom_pure _ _) (OwnFrom.and (own_heap _ _ _ _) (OwnFrom.and (own_heap _ _ _ _) (OwnFrom.and (own_heap _ _ _ _) (ownFrom_below (Nat.le_refl _) (by omega)))))
 case hIx => exact fun x => OwnFrom.and (ownFrom_pure _ _) (OwnFrom.and (ownFrom_pure _ _) (OwnFrom.and (fun k X Y f hs s y => own_heap (β := Unit) _ _ _ _ () X Y f hs s y) (ownFrom_below (Nat.le_refl _) (by omega))))
 case hR =>
  rintro k W ⟨_, _, _, h3, hB⟩;exact ⟨by rw [cell_of_row W _ 0 _ _ (0, 0) h3]; rfl, rowAt_below q hB (fun _ _ => I)⟩
 case h0 => exact ⟨fun j u hj => by omega, H, D, R, F⟩
 case hA =>
  rintro k V ⟨⟩ X Y f ⟨B, g1, O, r, z, g, A, l, rfl⟩ s y;exact ⟨B, g1, own_heap (β := Unit) _ _ _ _ () X Y f O s y, r, own_heap (β := Unit) _ _ _ _ () X Y f z s y, own_heap (β := Unit) _ _ _ _ () X Y f g s y, own_heap (β := Unit) _ _ _ _ () X Y f A s y, ownFrom_below (β := Unit) (Nat.le_refl _) (by omega) () X Y f l s y, rfl⟩
 case hassign =>
  rintro k W K Z ⟨r, z, g, A, l⟩ L C;gi_wp2
  refine C _ _ (Kept.alloc _ _ _) ⟨W.heap.size, by omega, heap_at _ _, r, heap_on _ z, heap_on _ g, heap_on _ A, l.alloc (by omega) _, rfl⟩
 case hbody =>
  rintro k V W Z ⟨B, g1, O, r, z, g, A, l, rfl⟩ L _ _;have q0 : W.cell? ⟨B, 0, none⟩ = some (.int .i64 (c k).line) := by rw [cell_of_row W _ 0 _ _ (0, 0) O]; rfl
  have q1 : W.cell? ⟨w.heap.size, 0, none⟩ = some (.int .i64 line) := by rw [cell_of_row W _ 0 _ _ (0, 0) z]; rfl
  have q2 : W.cell? ⟨w.heap.size + 1, 0, none⟩ = some (.int .i64 0) := by rw [cell_of_row W _ 0 _ _ (0, 0) g]; rfl
  have q3 : W.frozen? ⟨w.heap.size + 1, 0, none⟩ = false := frozen_of_row W _ 0 _ _ g;have m : row[k]? = some row[k] := List.getElem?_eq_getElem Z;have hl := HC.out k _ m;generalize row[k] = u at m hl;have HU : Hid (row[k]? = some u) := m;have HL : Hid ((c k).line = u.1) := hl;clear m hl;by_cases T : ((c k).line == line) = true
  ·gi_wp2
   have M : u.1 = line := by have := HL.out; simp at T; omega
   refine ⟨Kept.chg (S := fun j => j = w.heap.size + 1) (chg_grown (grownBy_setCell' W (w.heap.size + 1) _) rfl) (fun j e => by omega), rfl, firstI_some (c := c) HU.out M r, ?_, l.setCell (p := ⟨w.heap.size + 1, 0, none⟩) (by simp) _⟩;exact heap_setCell_same W _ 0 _ _ _ g
  ·simp only [Bool.not_eq_true] at T;gi_wp2
   refine ⟨Kept.refl _ _, fun j v hj hv => ?_, z, g, A, l⟩;by_cases he : j < k
   ·exact r j v he hv
   ·have : j = k := by omega
    subst this;rw [HU.out] at hv;cases hv;have := HL.out;simp at T
    omega
 case hdone =>
  rintro W ⟨r, z, g, A, l⟩ C;have q2 : W.cell? ⟨w.heap.size + 1, 0, none⟩ = some (.int .i64 0) := by rw [cell_of_row W _ 0 _ _ (0, 0) g]; rfl
  have q3 : W.frozen? ⟨w.heap.size + 1, 0, none⟩ = false := frozen_of_row W _ 0 _ _ g;gi_wp2
  have g8 := heap_setCell_same W (w.heap.size + 1) 0 _ _ (.int .i64 (-1)) g;have E : (W.setCell ⟨w.heap.size + 1, 0, none⟩ (.int .i64 (-1))).heap[W0.heap.size]? = some (.deferred (some [])) := (heap_setCell_other W ⟨w.heap.size + 1, 0, none⟩ _ _ (by simp; omega)).trans C;refine ⟨by simp, .inl ⟨_, _, rfl, run_takeDeferred E, ?_⟩⟩;have J := (World.putObj_heap_other (o := .deferred none) (show w.heap.size + 1 ≠ W0.heap.size by omega)).trans g8;have i := cell_of_row _ _ 0 _ _ (0, 0) J;refine ⟨.int .i64 (-1), ?_, ret_int (firstI_none fun j u m => r j u (List.getElem?_eq_some_iff.1 m).1 m).symm, (l.setCell (p := ⟨w.heap.size + 1, 0, none⟩) (by simp) _).trans ((Below.refl _ _).grown (grownBy_putObj' _ _ _) (by have := (ltH E); omega) (fun k e => by cases e; omega))⟩;simp at i
  simp [results, Tryz.results237, go_sem, i]
 case hstop =>
  rintro x k W Z ⟨rfl, hf, g, l⟩ C;gi_wp2
  refine ⟨by simp, .inl ⟨_, _, rfl, run_takeDeferred C, ?_⟩⟩;have J := (World.putObj_heap_other (o := .deferred none) (show w.heap.size + 1 ≠ W0.heap.size by omega)).trans g;have i := cell_of_row _ _ 0 _ _ (0, 0) J;refine ⟨.int .i64 k, ?_, ret_int hf.symm, l.trans ((Below.refl _ _).grown (grownBy_putObj' _ _ _) (by have := (ltH C); omega) (fun k e => by cases e; omega))⟩;simp at i
  simp [results, Tryz.results237, go_sem, i]
attribute [local go_sem] Oper.semAt_some
structure SCells where
 b : Nat
 off : Nat
 cap : Nat
 way : Nat → WCells
def SetsAt (W : World) (b0 off0 s m : Nat) (c : Nat → SCells) : Prop :=
 ∀ i, i < s → W.cell? ⟨b0, off0 + i, none⟩ = some (.slice (some ⟨(c i).b, (c i).off, none⟩) m (c i).cap) ∧ RowAt W (c i).b (c i).off m (c i).way
theorem setsAt_keep {W W' : World} {b0 off0 s m : Nat} {c : Nat → SCells} (h : SetsAt W b0 off0 s m c) (h0 : W'.heap[b0]? = W.heap[b0]?) (h1 : ∀ i, i < s → W'.heap[(c i).b]? = W.heap[(c i).b]?) : SetsAt W' b0 off0 s m c := fun i hi => by
 obtain ⟨d, j⟩ := h i hi;refine ⟨(World.cell?_of_block (w := W) (a := ⟨b0, _, none⟩) h0).trans d, fun k hk => ?_⟩;obtain ⟨f, g, l⟩ := j k hk;have := h1 i hi;exact ⟨(World.cell?_of_block (w := W) (a := ⟨(c i).b, _, none⟩) this).trans f, (World.cell?_of_block (w := W) (a := ⟨(c i).b, _, none⟩) this).trans g, (World.cell?_of_block (w := W) (a := ⟨(c i).b, _, none⟩) this).trans l⟩
theorem own_blk {β : Type} {B k : Nat} {o : Obj} (h : k < B) : OwnFrom B (fun (_ : β) W => W.heap[k]? = some o) := fun s X Y row hs hg hr =>
 (hg.block k (ltH hs) fun e => by have := (hr k e.symm).1; omega).trans hs
abbrev mark (D : Nat) : Deferred := { target := .collected D, args := #[] }
theorem leaves_marks {fn : Func} {tmps : Array Value} {R : Ending → World → Prop} (H : World → Prop) : ∀ (Ds : List Nat) (w : World), Ds.Nodup → (∀ D ∈ Ds, w.heap[D]? = some (.deferred (some []))) →
    (∀ D ∈ Ds, ∀ w, H w → w.heap[D]? = some (.deferred (some [])) → H (w.putObj D (.deferred none))) → H w → (∀ w, H w → LeavesInM Fence.wide 0 Tryz.prog fn tmps R [] .returning w) → LeavesInM Fence.wide 0 Tryz.prog fn tmps R (Ds.map mark) .returning w
 | [], w, _, _, _, hw, hend => hend w hw
 | D :: Ds, w, hn, hd, hH, hw, hend => by
  refine ⟨by simp, .inl ⟨D, _, rfl, run_takeDeferred (hd D (by simp)), ?_⟩⟩;obtain ⟨a, b⟩ := List.nodup_cons.1 hn;refine leaves_marks H Ds _ b (fun E hE => ?_) (fun E hE => hH E (by simp [hE])) (hH D (by simp) w hw (hd D (by simp))) hend;rw [World.putObj_heap_other (fun e => a (by rw [← e]; exact hE))];exact hd E (by simp [hE])
theorem everyWay1_iter (Bc b0 off0 s m cap0 : Nat) (c : Nat → SCells) (hs : s ≤ 4) (hm : m ≤ 4) (hs0 : 0 < s) (hm0 : 0 < m) :
    Iter Tryz.prog 253 #[.pointer (some ⟨Bc, 0, none⟩)] (fun k => #[.agg #[.int .i64 (k / m : Nat), .int .i64 (k % m : Nat)], ((c (k / m)).way (k % m)).agg]) (s * m)
     (fun W => W.cell? ⟨Bc, 0, none⟩ = some (.slice (some ⟨b0, off0, none⟩) s cap0) ∧ SetsAt W b0 off0 s m c) := by
 intro l J Jx W S mA hR hY h0;obtain ⟨r0, _⟩ := hR 0 W h0;have r1 := World.block_lt_of_cell? W _ r0;simp only at r1
 have G := heap_at W (.cells #[.func (.yield l) #[] #[]] 253);refine callsIn_of_wp_marks Tryz.func253 rfl trivial ?_ rfl;simp only [Tryz.ntmps253, List.size_toArray, List.length_cons, List.length_nil, Nat.reduceAdd, Nat.reduceSub, Array.replicate_succ, Array.replicate_zero, List.push_toArray, List.append_toArray, List.nil_append, List.cons_append];gi_wp2
 have j0 : J 0 (W.alloc (.cells #[.func (.yield l) #[] #[]] 253)) := S.alloc _ h0;have cA : W.heap.size < (W.alloc (.cells #[.func (.yield l) #[] #[]] 253)).heap.size := by simp
 generalize W.alloc (.cells #[.func (.yield l) #[] #[]] 253) = W1 at G j0 cA ⊢
 refine wpIn_loop (fun a wr => ∃ (i : Nat) (Ds : List Nat) (u3 u4 u5 u6 u7 eA qA nA lA iA kA jA gA I M L O aA H R U : Value), i ≤ s ∧ Ds.Nodup ∧ (∀ D ∈ Ds, W.heap.size ≤ D ∧ wr.heap[D]? = some (.deferred (some []))) ∧ J (i * m) wr ∧ wr.heap[W.heap.size]? = some (.cells #[.func (.yield l) #[] #[]] 253 (0, 0)) ∧
     a = { tmps := #[.func (.yield l) #[] #[], .pointer (some ⟨Bc, 0, none⟩), .pointer (some ⟨W.heap.size, 0, none⟩), u3, u4, u5, u6, u7, .slice (some ⟨b0, off0, none⟩) s cap0, .int .i64 s, .int .i64 i, eA, qA, nA, lA, iA, kA, jA, gA, I, M, L, O, aA, H, R, U], defers := Ds.map mark })
  (fun a _ => s - (intOf (a.tmps.getD 10 undef)).toNat) ⟨0, [], _, _, _, _, _, _, _, _, _, _, _, _, _, _, _, _, _, _, _, _, _, Nat.zero_le _, List.nodup_nil, by simp, by simpa using j0, G, rfl⟩ ?_
 clear G j0 cA r0 h0;rintro a wr ⟨i, Ds, u3, u4, u5, u6, u7, eA, qA, nA, lA, iA, kA, jA, gA, I, M, L, O, aA, H, R, U, hi, Z, y, hj, T, rfl⟩;by_cases z : i < s
 ·have SA : (i : Int) < (s : Int) := by omega
  obtain ⟨q0, q1⟩ := hR _ wr hj;obtain ⟨q2, q3⟩ := q1 i z;have q4 := World.block_lt_of_cell? wr _ q2;simp only at q4
  clear q1;have HJ : Hid _ := hj;clear hj;gi_wp2
  refine ⟨trivial, rfl, (callsIn_wide.2 (waysOf_any _ _ _ _ rfl _)).mono ?_⟩;rintro e w' ⟨rfl, rfl⟩;gi_wp2
  have f0 := heap_at wr (.cells #[.int .i64 i] 3);have f1 := heap_at (wr.alloc (.cells #[.int .i64 i] 3)) (.cells #[.slice (some ⟨(c i).b, (c i).off, none⟩) m (c i).cap] 143);rw [World.size_alloc] at f1;have oA := heap_on (.cells #[.slice (some ⟨(c i).b, (c i).off, none⟩) m (c i).cap] 143) f0;have F := heap_on (.cells #[.slice (some ⟨(c i).b, (c i).off, none⟩) m (c i).cap] 143) (heap_on (.cells #[.int .i64 i] 3) T);have C : ∀ D ∈ Ds, W.heap.size ≤ D ∧ D < wr.heap.size ∧ ((wr.alloc (.cells #[.int .i64 i] 3)).alloc (.cells #[.slice (some ⟨(c i).b, (c i).off, none⟩) m (c i).cap] 143)).heap[D]? = some (.deferred (some [])) := fun D hD => ⟨(y D hD).1, (Array.getElem?_eq_some_iff.1 (y D hD).2).1, heap_on _ (heap_on _ (y D hD).2)⟩;have dA : J (i * m) ((wr.alloc (.cells #[.int .i64 i] 3)).alloc (.cells #[.slice (some ⟨(c i).b, (c i).off, none⟩) m (c i).cap] 143)) := S.alloc _ (S.alloc _ HJ.out);have sz : ((wr.alloc (.cells #[.int .i64 i] 3)).alloc (.cells #[.slice (some ⟨(c i).b, (c i).off, none⟩) m (c i).cap] 143)).heap.size = wr.heap.size + 1 + 1 := by simp
  have iB : W.heap.size < wr.heap.size := (ltH T);generalize (wr.alloc (.cells #[.int .i64 i] 3)).alloc (.cells #[.slice (some ⟨(c i).b, (c i).off, none⟩) m (c i).cap] 143) = W2 at oA f1 F C dA sz ⊢;clear f0 T y HJ q0 q2 q3 q4;have NO : ∀ (V : World) (D : Nat), (∀ E ∈ Ds, W.heap.size ≤ E ∧ E < wr.heap.size ∧ V.heap[E]? = some (.deferred (some []))) → W2.heap.size ≤ D → V.heap[D]? = some (.deferred (some [])) → (D :: Ds).Nodup ∧ ∀ E ∈ D :: Ds, W.heap.size ≤ E ∧ V.heap[E]? = some (.deferred (some [])) := by
   intro V D h1 h2 h3;refine ⟨List.nodup_cons.2 ⟨fun h => by have := (h1 D h).2.1; omega, Z⟩, fun E hE => ?_⟩;rcases List.mem_cons.1 hE with rfl | hE
   ·exact ⟨by omega, h3⟩
   ·exact ⟨(h1 E hE).1, (h1 E hE).2.2⟩
  have pA : Hid _ := NO;clear NO Z;refine range_iter (N := m) (lb := #[.pointer (some ⟨wr.heap.size + 1, 0, none⟩)]) (gf := 271) rfl (enters_of Tryz.func271 (by kernel_rfl) rfl)
   (waysOf1_iter (wr.heap.size + 1) (c i).b (c i).off m (c i).cap (c i).way (by omega)) (fun _ => rfl)
   (fun j V => J (i * m + j) V ∧ V.heap[W.heap.size]? = some (.cells #[.func (.yield l) #[] #[]] 253 (0, 0)) ∧ V.heap[wr.heap.size]? = some (.cells #[.int .i64 i] 3 (0, 0)) ∧ V.heap[wr.heap.size + 1]? = some (.cells #[.slice (some ⟨(c i).b, (c i).off, none⟩) m (c i).cap] 143 (0, 0)) ∧ ∀ D ∈ Ds, W.heap.size ≤ D ∧ D < wr.heap.size ∧ V.heap[D]? = some (.deferred (some [])))
   (fun x j V => x = .ret ∧ Jx (i * m + j) V ∧ ∀ D ∈ Ds, W.heap.size ≤ D ∧ D < wr.heap.size ∧ V.heap[D]? = some (.deferred (some [])))
   ?hI ?hIx ?hR ?h0
   (fun j a' V => ∃ B, W2.heap.size < B ∧ V.heap[B]? = some (.cells #[.int .i64 ((c i).way j).line, .int .i64 ((c i).way j).state, .slice ((c i).way j).addr ((c i).way j).len ((c i).way j).cap] 88 (0, 0)) ∧ J (i * m + j) V ∧ V.heap[W.heap.size]? = some (.cells #[.func (.yield l) #[] #[]] 253 (0, 0)) ∧ V.heap[wr.heap.size]? = some (.cells #[.int .i64 i] 3 (0, 0)) ∧ V.heap[wr.heap.size + 1]? = some (.cells #[.slice (some ⟨(c i).b, (c i).off, none⟩) m (c i).cap] 143 (0, 0)) ∧ (∀ D ∈ Ds, W.heap.size ≤ D ∧ D < wr.heap.size ∧ V.heap[D]? = some (.deferred (some []))) ∧
    a' = { tmps := #[.func (.yield l) #[] #[], .pointer (some ⟨Bc, 0, none⟩), .pointer (some ⟨W.heap.size, 0, none⟩), .pointer (some ⟨wr.heap.size, 0, none⟩), .slice (some ⟨(c i).b, (c i).off, none⟩) m (c i).cap, .int .i64 j, .pointer (some ⟨B, 0, none⟩), u7, .slice (some ⟨b0, off0, none⟩) s cap0, .int .i64 s, .int .i64 i, .bool true, .int .i64 i, .pointer (some ⟨b0, off0 + i, none⟩), .slice (some ⟨(c i).b, (c i).off, none⟩) m (c i).cap, .slice (some ⟨(c i).b, (c i).off, none⟩) m (c i).cap, .func (.func 271) #[] #[.pointer (some ⟨wr.heap.size + 1, 0, none⟩)], .int .i64 j, ((c i).way j).agg, I, M, L, O, aA, H, R, U], defers := [] })
   ?hA ?hassign ?hbody ?hdone ?hstop
  case hI =>
   rintro j X Y f ⟨g, p, v, r, d⟩ o q
   exact ⟨own_later S (by omega) _ X Y f g o q, own_heap (β := Unit) _ _ _ _ () X Y f p o q, own_heap (β := Unit) _ _ _ _ () X Y f v o q, own_heap (β := Unit) _ _ _ _ () X Y f r o q,
    fun D hD => ⟨(d D hD).1, (d D hD).2.1, own_blk (β := Unit) (by have := (d D hD).2.1; omega) () X Y f (d D hD).2.2 o q⟩⟩
  case hIx =>
   rintro x j X Y f ⟨g0, g, d⟩ o q;exact ⟨g0, own_later mA (by omega) _ X Y f g o q, fun D hD => ⟨(d D hD).1, (d D hD).2.1, own_blk (β := Unit) (by have := (d D hD).2.1; omega) () X Y f (d D hD).2.2 o q⟩⟩
  case hR =>
   rintro j V ⟨g, _, _, r, _⟩;exact ⟨by rw [cell_of_row V _ 0 _ _ (0, 0) r]; rfl, ((hR _ V g).2 i z).2⟩
  case h0 => exact ⟨dA, F, oA, f1, C⟩
  case hA =>
   rintro j a' ⟨⟩ X Y f ⟨B, g0, g6, g, p, v, r, d, rfl⟩ o q
   exact ⟨B, g0, own_heap (β := Unit) _ _ _ _ () X Y f g6 o q, own_later S (by omega) _ X Y f g o q, own_heap (β := Unit) _ _ _ _ () X Y f p o q, own_heap (β := Unit) _ _ _ _ () X Y f v o q, own_heap (β := Unit) _ _ _ _ () X Y f r o q,
    fun D hD => ⟨(d D hD).1, (d D hD).2.1, own_blk (β := Unit) (by have := (d D hD).2.1; omega) () X Y f (d D hD).2.2 o q⟩, rfl⟩
  case hassign =>
   rintro j V K A ⟨g, p, v, r, d⟩ hv hK;gi_wp2
   exact hK _ _ (Kept.alloc _ _ _) ⟨V.heap.size, by omega, heap_at _ _, S.alloc _ g, heap_on _ p, heap_on _ v, heap_on _ r, fun D hD => ⟨(d D hD).1, (d D hD).2.1, heap_on _ (d D hD).2.2⟩, rfl⟩
  case hbody =>
   rintro j a' V A ⟨B, g0, g6, g, p, v, r, d, rfl⟩ hv _ _;have y0 : V.cell? ⟨W.heap.size, 0, none⟩ = some (.func (.yield l) #[] #[]) := by rw [cell_of_row V _ 0 _ _ (0, 0) p]; rfl
   have y1 : V.cell? ⟨wr.heap.size, 0, none⟩ = some (.int .i64 i) := by rw [cell_of_row V _ 0 _ _ (0, 0) v]; rfl
   have y2 : V.cell? ⟨B, 0, none⟩ = some (.int .i64 ((c i).way j).line) := by rw [cell_of_row V _ 0 _ _ (0, 0) g6]; rfl
   have y3 : V.cell? ⟨B, 1, none⟩ = some (.int .i64 ((c i).way j).state) := by rw [cell_of_row V _ 1 _ _ (0, 0) g6]; rfl
   have y4 : V.cell? ⟨B, 2, none⟩ = some (.slice ((c i).way j).addr ((c i).way j).len ((c i).way j).cap) := by rw [cell_of_row V _ 2 _ _ (0, 0) g6]; rfl
   have d1 : (i * m + j) / m = i := by rw [Nat.mul_comm, Nat.mul_add_div hm0, Nat.div_eq_of_lt A, Nat.add_zero]
   have d2 : (i * m + j) % m = j := by rw [Nat.mul_comm, Nat.mul_add_mod, Nat.mod_eq_of_lt A]
   have d3 : i * m + j < s * m := by
    have : (i + 1) * m ≤ s * m := Nat.mul_le_mul_right _ z;rw [Nat.add_one_mul] at this;omega
   obtain ⟨fn, tmps, zA, eB, hy, IA⟩ := hY (i * m + j) V d3 g;rw [d1, d2] at hy;clear d1 d2;have bw : W.heap.size < V.heap.size := (ltH p);have HG : Hid _ := And.intro p (And.intro v (And.intro r d));clear g p v r d g6 d3;gi_wp2
   refine ⟨rfl, IA.mono ?_⟩;rintro e W3 ⟨n, ⟨rfl, LA⟩ | ⟨rfl, KA⟩⟩
   ·gi_wp2
    obtain ⟨p, v, r, d⟩ := HG.out;refine ⟨n.mono (by omega), LA, (n.2 _ (Nat.le_refl _) bw).trans p, (n.2 _ (by omega) (by omega)).trans v, (n.2 _ (by omega) (by omega)).trans r, fun D hD => ⟨(d D hD).1, (d D hD).2.1, (n.2 _ (d D hD).1 (by have := (d D hD).2.1; omega)).trans (d D hD).2.2⟩⟩
   ·gi_wp2
    obtain ⟨p, v, r, d⟩ := HG.out;refine ⟨n.mono (by omega), rfl, KA, fun D hD => ⟨(d D hD).1, (d D hD).2.1, (n.2 _ (d D hD).1 (by have := (d D hD).2.1; omega)).trans (d D hD).2.2⟩⟩
  case hdone =>
   rintro V ⟨g, p, v, r, d⟩ hK;obtain ⟨n1, n2⟩ := pA.out V _ d (Nat.le_refl _) hK;gi_wp2
   refine ⟨⟨i + 1, W2.heap.size :: Ds, _, _, _, _, _, _, _, _, _, _, _, _, _, _, _, _, _, _, _, _, _, z, n1, n2, by rw [Nat.add_one_mul]; exact g, p, rfl⟩, ?_⟩;simp [intOf]
   omega
  case hstop =>
   rintro x j V A ⟨rfl, g, d⟩ hK;obtain ⟨n1, n2⟩ := pA.out V _ d (Nat.le_refl _) hK;have d3 : i * m + j < s * m := by
    have : (i + 1) * m ≤ s * m := Nat.mul_le_mul_right _ z;rw [Nat.add_one_mul] at this;omega
   gi_wp2
   refine leaves_marks (fun V => Jx (i * m + j) V) (W2.heap.size :: Ds) V n1 (fun D hD => (n2 D hD).2) (fun D hD V' h hd => mA.putObj _ h (n2 D hD).1 hd rfl) g ?_;intro V' h';exact ⟨_, results_none rfl _ _ _, ⟨_, rfl⟩, .inr ⟨_, d3, h'⟩⟩
 ·have JA : i = s := by omega
  subst JA;gi_wp2
  refine leaves_marks (fun V => J (i * m) V) Ds wr Z (fun D hD => (y D hD).2) (fun D hD V' h hd => S.putObj _ h (y D hD).1 hd rfl) hj ?_;intro V' h';exact ⟨_, results_none rfl _ _ _, ⟨_, rfl⟩, .inl h'⟩
end Go.Proofs.YtcocbafhcpdheaaGreatDoor
