
import Derived.Test.YtpfgggjcaogkkaaWays
import Derived.Test.YtpfgggjcaogkkaaRange
import Derived.RangeFuncCalls
import Derived.Shelf.RegionOpen
import Derived.OwnWalkIn
import Derived.TacticsInMore
import Derived.LoopNIn
import Derived.LoopIn
import Derived.Test.YtpfgggjcaogkkaaCacheFacts
/- The iterators of the program: the ways of one set, and of all sets. Conditions: sets that are there. -/
namespace Go.Proofs.Ytpfgggjcaogkkaa
open Go.ChangeShapes Go.WideShapes Go.ChangeAt Go.RowKit Go.Shelf
set_option linter.unusedVariables false
attribute [local go_sem] Oper.semAt_some

/-- A row of n ways in memory, by its cells. -/
structure WCells where
  line : Int
  state : Int
  addr : Option Addr
  len : Nat
  cap : Nat
abbrev WCells.agg (c : WCells) : Value := .agg #[.int .i64 c.line, .int .i64 c.state, .slice c.addr c.len c.cap]
def RowAt (W : World) (b off n : Nat) (c : Nat → WCells) : Prop :=
  ∀ k, k < n → W.cell? ⟨b, off + k * 3, none⟩ = some (.int .i64 (c k).line) ∧ W.cell? ⟨b, off + k * 3 + 1, none⟩ = some (.int .i64 (c k).state) ∧ W.cell? ⟨b, off + k * 3 + 2, none⟩ = some (.slice (c k).addr (c k).len (c k).cap)

end Go.Proofs.Ytpfgggjcaogkkaa

/- The first way with a line, of one set: by the iterator of its ways. Condition: a set that is there. -/
namespace Go.Proofs.Ytpfgggjcaogkkaa
open Go.ChangeShapes Go.WideShapes Go.ChangeAt Go.RowKit Go.Shelf
set_option linter.unusedVariables false
attribute [local go_sem] Oper.semAt_some

theorem rowAt_of {w : World} {a : Option Addr} {row : List WayD} (h : SlRd wayR w a row) (hne : row ≠ []) :
    ∃ b off c, a = some ⟨b, off, none⟩ ∧ RowAt w b off row.length c ∧ ∀ k u, row[k]? = some u → (c k).line = u.1 ∧ (c k).state = u.2.1 ∧ (c k).len = u.2.2.length ∧ u.2.2.length ≤ (c k).cap ∧ (c k).cap ≤ maxLen ∧ SlRd intR w (c k).addr u.2.2 := by
  have h' := h
  rcases h' with h' | ⟨b, off, rows, rfl, _, _⟩
  · exact absurd h' hne
  have each : ∀ k : Nat, ∃ x : WCells, ∀ u, row[k]? = some u → (w.cell? ⟨b, off + k * 3, none⟩ = some (.int .i64 x.line) ∧ w.cell? ⟨b, off + k * 3 + 1, none⟩ = some (.int .i64 x.state) ∧ w.cell? ⟨b, off + k * 3 + 2, none⟩ = some (.slice x.addr x.len x.cap)) ∧
      x.line = u.1 ∧ x.state = u.2.1 ∧ x.len = u.2.2.length ∧ u.2.2.length ≤ x.cap ∧ x.cap ≤ maxLen ∧ SlRd intR w x.addr u.2.2 := by
    intro k
    cases hk : row[k]? with
    | none => exact ⟨⟨0, 0, none, 0, 0⟩, fun u hu => by cases hu⟩
    | some u =>
      obtain ⟨b', off', cs, hb, hrd, hcell⟩ := slrd_at h hk
      cases hb
      obtain ⟨ad, cap, rfl, i1, i2, h1, h2, h3⟩ := way_rd hrd
      refine ⟨⟨u.1, u.2.1, ad, u.2.2.length, cap⟩, fun u' hu => ?_⟩
      cases hu
      exact ⟨⟨hcell 0 _ rfl, hcell 1 _ rfl, hcell 2 _ rfl⟩, rfl, rfl, rfl, h1, h2, h3⟩
  obtain ⟨c, hc⟩ := Classical.axiomOfChoice each
  refine ⟨b, off, c, rfl, fun k hk => (hc k _ (List.getElem?_eq_getElem hk)).1, fun k u hu => (hc k u hu).2⟩

theorem rowAt_below {w w' : World} {b off n D : Nat} {c : Nat → WCells} (h : RowAt w b off n c) (hb : Below D w w') (hD : ∀ k, k < n → b < D) : RowAt w' b off n c := fun k hk => by
  obtain ⟨h0, h1, h2⟩ := h k hk
  have := hb.block b (hD k hk)
  exact ⟨(World.cell?_of_block (w := w) (a := ⟨b, _, none⟩) this).trans h0, (World.cell?_of_block (w := w) (a := ⟨b, _, none⟩) this).trans h1, (World.cell?_of_block (w := w) (a := ⟨b, _, none⟩) this).trans h2⟩
theorem rowAt_lt {w : World} {b off n : Nat} {c : Nat → WCells} (h : RowAt w b off n c) (hn : 0 < n) : b < w.heap.size := World.block_lt_of_cell? w _ (h 0 hn).1

def firstI (row : List WayD) (line : Int) : Int := match row.findIdx? fun u => u.1 == line with
  | some i => (i : Int)
  | none => -1

theorem firstI_some {row : List WayD} {line : Int} {c : Nat → WCells} {k : Nat} {u : WayD} (hu : row[k]? = some u) (hl : u.1 = line) (hno : ∀ j u, j < k → row[j]? = some u → u.1 ≠ line) : firstI row line = k := by
  have hk := (List.getElem?_eq_some_iff.1 hu).1
  have : row.findIdx? (fun u => u.1 == line) = some k := by
    rw [List.findIdx?_eq_some_iff_getElem]
    refine ⟨hk, ?_, fun j hj => ?_⟩
    · rw [List.getElem?_eq_getElem hk] at hu
      cases hu
      simpa using hl
    · simpa using hno j _ hj (List.getElem?_eq_getElem (by omega))
  unfold firstI
  rw [this]
theorem firstI_none {row : List WayD} {line : Int} (hno : ∀ (j : Nat) (u : WayD), row[j]? = some u → u.1 ≠ line) : firstI row line = -1 := by
  have : row.findIdx? (fun u => u.1 == line) = none := by
    rw [List.findIdx?_eq_none_iff]
    intro u hu
    obtain ⟨j, hj⟩ := List.mem_iff_getElem?.1 hu
    simpa using hno j u hj
  unfold firstI
  rw [this]

end Go.Proofs.Ytpfgggjcaogkkaa

/- The iterator over all ways of a store: set by set. Condition: sets that are there, all of one length. -/
namespace Go.Proofs.Ytpfgggjcaogkkaa
open Go.ChangeShapes Go.WideShapes Go.ChangeAt Go.RowKit Go.Shelf
set_option linter.unusedVariables false
attribute [local go_sem] Oper.semAt_some

/-- A store's sets in memory, by their cells: s sets of m ways. -/
structure SCells where
  b : Nat
  off : Nat
  cap : Nat
  way : Nat → WCells
def SetsAt (W : World) (b0 off0 s m : Nat) (c : Nat → SCells) : Prop :=
  ∀ i, i < s → W.cell? ⟨b0, off0 + i, none⟩ = some (.slice (some ⟨(c i).b, (c i).off, none⟩) m (c i).cap) ∧ RowAt W (c i).b (c i).off m (c i).way

theorem setsAt_keep {W W' : World} {b0 off0 s m : Nat} {c : Nat → SCells} (h : SetsAt W b0 off0 s m c) (h0 : W'.heap[b0]? = W.heap[b0]?) (h1 : ∀ i, i < s → W'.heap[(c i).b]? = W.heap[(c i).b]?) : SetsAt W' b0 off0 s m c := fun i hi => by
  obtain ⟨a1, a2⟩ := h i hi
  refine ⟨(World.cell?_of_block (w := W) (a := ⟨b0, _, none⟩) h0).trans a1, fun k hk => ?_⟩
  obtain ⟨q0, q1, q2⟩ := a2 k hk
  have := h1 i hi
  exact ⟨(World.cell?_of_block (w := W) (a := ⟨(c i).b, _, none⟩) this).trans q0, (World.cell?_of_block (w := W) (a := ⟨(c i).b, _, none⟩) this).trans q1, (World.cell?_of_block (w := W) (a := ⟨(c i).b, _, none⟩) this).trans q2⟩

theorem own_blk {β : Type} {B k : Nat} {o : Obj} (h : k < B) : OwnFrom B (fun (_ : β) W => W.heap[k]? = some o) := fun s X Y row hs hg hr =>
  (hg.block k (Array.getElem?_eq_some_iff.1 hs).1 fun e => by have := (hr k e.symm).1; omega).trans hs

abbrev mark (D : Nat) : Deferred := { target := .collected D, args := #[] }

/-- A function with marks among its deferred calls leaves: each block is shut. -/
theorem leaves_marks {fn : Func} {tmps : Array Value} {R : Ending → World → Prop} (H : World → Prop) : ∀ (Ds : List Nat) (w : World), Ds.Nodup → (∀ D ∈ Ds, w.heap[D]? = some (.deferred (some []))) →
    (∀ D ∈ Ds, ∀ w, H w → w.heap[D]? = some (.deferred (some [])) → H (w.putObj D (.deferred none))) → H w → (∀ w, H w → LeavesInM Fence.wide 0 Try.prog fn tmps R [] .returning w) → LeavesInM Fence.wide 0 Try.prog fn tmps R (Ds.map mark) .returning w
  | [], w, _, _, _, hw, hend => hend w hw
  | D :: Ds, w, hn, hd, hH, hw, hend => by
    refine ⟨by simp, .inl ⟨D, _, rfl, run_takeDeferred (hd D (by simp)), ?_⟩⟩
    obtain ⟨n1, n2⟩ := List.nodup_cons.1 hn
    refine leaves_marks H Ds _ n2 (fun E hE => ?_) (fun E hE => hH E (by simp [hE])) (hH D (by simp) w hw (hd D (by simp))) hend
    rw [World.putObj_heap_other (fun e => n1 (by rw [← e]; exact hE))]
    exact hd E (by simp [hE])

end Go.Proofs.Ytpfgggjcaogkkaa
