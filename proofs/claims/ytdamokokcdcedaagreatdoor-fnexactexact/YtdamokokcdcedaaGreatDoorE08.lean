import Derived.Test.YtdamokokcdcedaaGreatDoorE00Box
import Derived.Test.YtdamokokcdcedaaGreatDoorE07
import Derived.RangeFuncCalls
import Derived.Shelf.RegionOpen
import Derived.OwnWalkIn
import Derived.TacticsInMore
import Derived.LoopNIn
import Derived.LoopIn
namespace Go.Proofs.YtdamokokcdcedaaGreatDoor
set_option maxHeartbeats 4000000
open Go.ChangeShapes Go.WideShapes Go.ChangeAt Go.RowKit Go.Shelf
set_option linter.unusedVariables false
attribute [local go_sem] Oper.semAt_some
structure WCells where
 line : Int
 state : Int
 addr : Option Addr
 len : Nat
 cap : Nat
abbrev WCells.agg (c : WCells) : Value := .agg #[.int .i64 c.line, .int .i64 c.state, .slice c.addr c.len c.cap]
def RowAt (W : World) (b off n : Nat) (c : Nat → WCells) : Prop :=
 ∀ k, k < n → W.cell? ⟨b, off + k * 3, none⟩ = some (.int .i64 (c k).line) ∧ W.cell? ⟨b, off + k * 3 + 1, none⟩ = some (.int .i64 (c k).state) ∧ W.cell? ⟨b, off + k * 3 + 2, none⟩ = some (.slice (c k).addr (c k).len (c k).cap)
theorem waysOf1_iter (Bs b off n cap : Nat) (c : Nat → WCells) (hn : n ≤ 1048576) :
    Iter Tryz.prog 218 #[.pointer (some ⟨Bs, 0, none⟩)] (fun k => #[.int .i64 k, (c k).agg]) n
     (fun W => W.cell? ⟨Bs, 0, none⟩ = some (.slice (some ⟨b, off, none⟩) n cap) ∧ RowAt W b off n c) := by
 intro l J Jx W z A q y r;obtain ⟨r0, _⟩ := q 0 W r;refine callsIn_of_wp Tryz.func218 rfl trivial ?_ rfl;simp only [Tryz.ntmps218, List.size_toArray, List.length_cons, List.length_nil, Nat.reduceAdd, Nat.reduceSub, Array.replicate_succ, Array.replicate_zero, List.push_toArray, List.append_toArray, List.nil_append, List.cons_append];gi_wp2
 gi_loopw [7] (fun p wr => ∃ k : Nat, k ≤ n ∧ p = .int .i64 k ∧ J k wr) (fun p _ => n - (intOf p).toNat)
 case atStart => exact ⟨0, Nat.zero_le _, rfl, r⟩
 case round =>
  obtain ⟨k, hk, rfl, j⟩ := hrel;by_cases a : k < n
  ·have m : (k : Int) < (n : Int) := by omega
   obtain ⟨q0, v⟩ := q k wr j;obtain ⟨c0, c1, c2⟩ := v k a;obtain ⟨fn, s, d, o, hy, i⟩ := y k (wr.alloc (.cells #[.int .i64 (c k).line, .int .i64 (c k).state, .slice (c k).addr (c k).len (c k).cap] 74)) a (z.alloc _ j);gi_wp2
   refine ⟨rfl, i.mono ?_⟩;rintro e W3 ⟨_, ⟨rfl, f⟩ | ⟨rfl, g⟩⟩
   ·gi_wp2
    go_roundw
    case rel => exact ⟨k + 1, by omega, by go_num, f⟩
    case measure => simp [intOf]; omega
   ·gi_wp2
    refine bodyPost_ret (results_none rfl _ _ _) rfl ?_;exact ⟨⟨_, rfl⟩, .inr ⟨k, a, g⟩⟩
  ·gi_wp2
   go_end0
   exact ⟨⟨_, rfl⟩, .inl (by have : k = n := by omega
                             subst this; exact j)⟩
attribute [local go_sem] Oper.semAt_some
theorem rowAt_of {w : World} {a : Option Addr} {row : List WayD} (h : SlRd wayR w a row) (hne : row ≠ []) :
    ∃ b d c, a = some ⟨b, d, none⟩ ∧ RowAt w b d row.length c ∧ ∀ k u, row[k]? = some u → (c k).line = u.1 ∧ (c k).state = u.2.1 ∧ (c k).len = u.2.2.length ∧ u.2.2.length ≤ (c k).cap ∧ (c k).cap ≤ maxLen ∧ SlRd intR w (c k).addr u.2.2 := by
 have j := h;rcases j with j | ⟨b, d, m, rfl, _, _⟩
 ·exact absurd j hne
 have g : ∀ k : Nat, ∃ x : WCells, ∀ u, row[k]? = some u → (w.cell? ⟨b, d + k * 3, none⟩ = some (.int .i64 x.line) ∧ w.cell? ⟨b, d + k * 3 + 1, none⟩ = some (.int .i64 x.state) ∧ w.cell? ⟨b, d + k * 3 + 2, none⟩ = some (.slice x.addr x.len x.cap)) ∧
     x.line = u.1 ∧ x.state = u.2.1 ∧ x.len = u.2.2.length ∧ u.2.2.length ≤ x.cap ∧ x.cap ≤ maxLen ∧ SlRd intR w x.addr u.2.2 := by
  intro k;cases i : row[k]? with
  | none => exact ⟨⟨0, 0, none, 0, 0⟩, fun u hu => by cases hu⟩
  | some u =>
   obtain ⟨b', n, cs, q, l, f⟩ := slrd_at h i;cases q;obtain ⟨v, cap, rfl, i1, i2, p, s, r⟩ := way_rd l;refine ⟨⟨u.1, u.2.1, v, u.2.2.length, cap⟩, fun u' hu => ?_⟩;cases hu;exact ⟨⟨f 0 _ rfl, f 1 _ rfl, f 2 _ rfl⟩, rfl, rfl, rfl, p, s, r⟩
 obtain ⟨c, o⟩ := Classical.axiomOfChoice g;refine ⟨b, d, c, rfl, fun k i => (o k _ (List.getElem?_eq_getElem i)).1, fun k u hu => (o k u hu).2⟩
theorem rowAt_below {w w' : World} {b off n D : Nat} {c : Nat → WCells} (h : RowAt w b off n c) (hb : Below D w w') (hD : ∀ k, k < n → b < D) : RowAt w' b off n c := fun k hk => by
 obtain ⟨f, g, d⟩ := h k hk;have := hb.block b (hD k hk);exact ⟨(World.cell?_of_block (w := w) (a := ⟨b, _, none⟩) this).trans f, (World.cell?_of_block (w := w) (a := ⟨b, _, none⟩) this).trans g, (World.cell?_of_block (w := w) (a := ⟨b, _, none⟩) this).trans d⟩
theorem rowAt_lt {w : World} {b off n : Nat} {c : Nat → WCells} (h : RowAt w b off n c) (hn : 0 < n) : b < w.heap.size := World.block_lt_of_cell? w _ (h 0 hn).1
def firstI (row : List WayD) (line : Int) : Int := match row.findIdx? fun u => u.1 == line with
 | some i => (i : Int)
 | none => -1
theorem firstI_some {row : List WayD} {line : Int} {c : Nat → WCells} {k : Nat} {u : WayD} (hu : row[k]? = some u) (hl : u.1 = line) (hno : ∀ j u, j < k → row[j]? = some u → u.1 ≠ line) : firstI row line = k := by
 have a := (List.getElem?_eq_some_iff.1 hu).1;have : row.findIdx? (fun u => u.1 == line) = some k := by
  rw [List.findIdx?_eq_some_iff_getElem];refine ⟨a, ?_, fun j hj => ?_⟩
  ·rw [List.getElem?_eq_getElem a] at hu;cases hu;simpa using hl
  ·simpa using hno j _ hj (List.getElem?_eq_getElem (by omega))
 unfold firstI;rw [this]
theorem firstI_none {row : List WayD} {line : Int} (hno : ∀ (j : Nat) (u : WayD), row[j]? = some u → u.1 ≠ line) : firstI row line = -1 := by
 have : row.findIdx? (fun u => u.1 == line) = none := by
  rw [List.findIdx?_eq_none_iff];intro u a;obtain ⟨j, b⟩ := List.mem_iff_getElem?.1 a;simpa using hno j u b
 unfold firstI;rw [this]
theorem waysOf_any (v : Value) (a : Option Addr) (n cap : Nat) (hv : v = .slice a n cap) (w : World) :
    Calls Tryz.prog 159 #[v] w fun e w' => e = .returned (.func (.func 218) #[] #[.pointer (some ⟨w.heap.size, 0, none⟩)]) ∧ w' = w.alloc (.cells #[v] 127) := by
 subst hv;go_enter Tryz.func159, Tryz.ntmps159;go_wp2;go_ret
 exact ⟨rfl, rfl⟩
theorem firstWith_any (a : Option Addr) (row : List WayD) (cap : Nat) (line : Int) (w : World) (h : SlRd wayR w a row) (hne : row ≠ []) (hm : row.length ≤ 1048576) :
    Calls Tryz.prog 278 #[.slice a row.length cap, .int .i64 line] w fun e w' => e = .returned (.int .i64 (firstI row line)) ∧ Below w.heap.size w w' := by
 obtain ⟨b, d, c, rfl, r, hc⟩ := rowAt_of h hne;have D : 0 < row.length := List.length_pos_iff.2 hne;have I := rowAt_lt r D;have HC : Hid (∀ (k : Nat) (u : WayD), row[k]? = some u → (c k).line = u.1) := fun k u m => (hc k u m).1;clear h hc;refine (callsIn_wide (n := 0)).1 ?_;refine callsIn_of_wp_marks Tryz.func278 rfl trivial ?_ rfl;simp only [Tryz.ntmps278, List.size_toArray, List.length_cons, List.length_nil, Nat.reduceAdd, Nat.reduceSub, Array.replicate_succ, Array.replicate_zero, List.push_toArray, List.append_toArray, List.nil_append, List.cons_append];gi_wp2
 refine ⟨trivial, rfl, (callsIn_wide.2 (waysOf_any _ _ _ _ rfl _)).mono ?_⟩;rintro e w' ⟨rfl, rfl⟩;gi_wp2
 have e1 : (w.alloc (.cells #[.int .i64 line] 2)).heap.size = w.heap.size + 1 := by simp
 have e2 : ((w.alloc (.cells #[.int .i64 line] 2)).alloc (.cells #[.int .i64 0] 2)).heap.size = w.heap.size + 1 + 1 := by simp
 have k0 := heap_at w (.cells #[.int .i64 line] 2);have L := heap_at (w.alloc (.cells #[.int .i64 line] 2)) (.cells #[.int .i64 0] 2);have U := heap_at ((w.alloc (.cells #[.int .i64 line] 2)).alloc (.cells #[.int .i64 0] 2)) (.cells #[.slice (some ⟨b, d, none⟩) row.length cap] 127);rw [e1] at L;rw [e2] at U;have E := heap_on (.cells #[.slice (some ⟨b, d, none⟩) row.length cap] 127) (heap_on (.cells #[.int .i64 0] 2) k0);have H := heap_on (.cells #[.slice (some ⟨b, d, none⟩) row.length cap] 127) L;have F : Below w.heap.size w (((w.alloc (.cells #[.int .i64 line] 2)).alloc (.cells #[.int .i64 0] 2)).alloc (.cells #[.slice (some ⟨b, d, none⟩) row.length cap] 127)) :=
  (((Below.refl _ w).alloc (Nat.le_refl _) _).alloc (by simp) _).alloc (by simp; omega) _
 clear k0 L;have e3 : (((w.alloc (.cells #[.int .i64 line] 2)).alloc (.cells #[.int .i64 0] 2)).alloc (.cells #[.slice (some ⟨b, d, none⟩) row.length cap] 127)).heap.size = w.heap.size + 1 + 1 + 1 := by simp
 generalize (((w.alloc (.cells #[.int .i64 line] 2)).alloc (.cells #[.int .i64 0] 2)).alloc (.cells #[.slice (some ⟨b, d, none⟩) row.length cap] 127)) = W0 at E H U F e3 ⊢;clear e1 e2;refine range_iter (N := row.length) (lb := #[.pointer (some ⟨w.heap.size + 1 + 1, 0, none⟩)]) (gf := 218) rfl (enters_of Tryz.func218 (by kernel_rfl) rfl)
  (waysOf1_iter (w.heap.size + 1 + 1) b d row.length cap c hm) (fun _ => rfl)
  (fun k W => (∀ j u, j < k → row[j]? = some u → u.1 ≠ line) ∧ W.heap[w.heap.size]? = some (.cells #[.int .i64 line] 2 (0, 0)) ∧ W.heap[w.heap.size + 1]? = some (.cells #[.int .i64 0] 2 (0, 0)) ∧ W.heap[w.heap.size + 1 + 1]? = some (.cells #[.slice (some ⟨b, d, none⟩) row.length cap] 127 (0, 0)) ∧ Below w.heap.size w W)
  (fun x k W => x = .ret ∧ firstI row line = k ∧ W.heap[w.heap.size + 1]? = some (.cells #[.int .i64 k] 2 (0, 0)) ∧ Below w.heap.size w W)
  ?hI ?hIx ?hR ?h0
  (fun k M W => ∃ B, W0.heap.size < B ∧ W.heap[B]? = some (.cells #[.int .i64 (c k).line, .int .i64 (c k).state, .slice (c k).addr (c k).len (c k).cap] 74 (0, 0)) ∧ (∀ j u, j < k → row[j]? = some u → u.1 ≠ line) ∧ W.heap[w.heap.size]? = some (.cells #[.int .i64 line] 2 (0, 0)) ∧ W.heap[w.heap.size + 1]? = some (.cells #[.int .i64 0] 2 (0, 0)) ∧ W.heap[w.heap.size + 1 + 1]? = some (.cells #[.slice (some ⟨b, d, none⟩) row.length cap] 127 (0, 0)) ∧ Below w.heap.size w W ∧
   M = { tmps := #[.slice (some ⟨b, d, none⟩) row.length cap, .int .i64 line, undef, .pointer (some ⟨w.heap.size, 0, none⟩), .pointer (some ⟨w.heap.size + 1, 0, none⟩), .int .i64 k, .pointer (some ⟨B, 0, none⟩), .slice (some ⟨b, d, none⟩) row.length cap, .func (.func 218) #[] #[.pointer (some ⟨w.heap.size + 1 + 1, 0, none⟩)], .int .i64 k, (c k).agg, undef, undef, undef, undef, undef], defers := [] })
  ?hA ?hassign ?hbody ?hdone ?hstop
 case hI => exact OwnFrom.and (ownFrom_pure _ _) (OwnFrom.and (own_heap _ _ _ _) (OwnFrom.and (own_heap _ _ _ _) (OwnFrom.and (own_heap _ _ _ _) (ownFrom_below (Nat.le_refl _) (by omega)))))
 case hIx => exact fun x => OwnFrom.and (ownFrom_pure _ _) (OwnFrom.and (ownFrom_pure _ _) (OwnFrom.and (fun k X Y f hs z s => own_heap (β := Unit) _ _ _ _ () X Y f hs z s) (ownFrom_below (Nat.le_refl _) (by omega))))
 case hR =>
  rintro k W ⟨_, _, _, h3, hB⟩;exact ⟨by rw [cell_of_row W _ 0 _ _ (0, 0) h3]; rfl, rowAt_below r hB (fun _ _ => I)⟩
 case h0 => exact ⟨fun j u hj => by omega, E, H, U, F⟩
 case hA =>
  rintro k M ⟨⟩ X Y f ⟨B, g1, T, q, y, g, C, l, rfl⟩ z s;exact ⟨B, g1, own_heap (β := Unit) _ _ _ _ () X Y f T z s, q, own_heap (β := Unit) _ _ _ _ () X Y f y z s, own_heap (β := Unit) _ _ _ _ () X Y f g z s, own_heap (β := Unit) _ _ _ _ () X Y f C z s, ownFrom_below (β := Unit) (Nat.le_refl _) (by omega) () X Y f l z s, rfl⟩
 case hassign =>
  rintro k W K R ⟨q, y, g, C, l⟩ Z A;gi_wp2
  refine A _ _ (Kept.alloc _ _ _) ⟨W.heap.size, by omega, heap_at _ _, q, heap_on _ y, heap_on _ g, heap_on _ C, l.alloc (by omega) _, rfl⟩
 case hbody =>
  rintro k M W R ⟨B, g1, T, q, y, g, C, l, rfl⟩ Z _ _;have q0 : W.cell? ⟨B, 0, none⟩ = some (.int .i64 (c k).line) := by rw [cell_of_row W _ 0 _ _ (0, 0) T]; rfl
  have q1 : W.cell? ⟨w.heap.size, 0, none⟩ = some (.int .i64 line) := by rw [cell_of_row W _ 0 _ _ (0, 0) y]; rfl
  have q2 : W.cell? ⟨w.heap.size + 1, 0, none⟩ = some (.int .i64 0) := by rw [cell_of_row W _ 0 _ _ (0, 0) g]; rfl
  have q3 : W.frozen? ⟨w.heap.size + 1, 0, none⟩ = false := frozen_of_row W _ 0 _ _ g;have m : row[k]? = some row[k] := List.getElem?_eq_getElem R;have J := HC.out k _ m;generalize row[k] = u at m J;have HU : Hid (row[k]? = some u) := m;have HL : Hid ((c k).line = u.1) := J;clear m J;by_cases hx : ((c k).line == line) = true
  ·gi_wp2
   have V : u.1 = line := by have := HL.out; simp at hx; omega
   refine ⟨Kept.chg (S := fun j => j = w.heap.size + 1) (chg_grown (grownBy_setCell' W (w.heap.size + 1) _) rfl) (fun j e => by omega), rfl, firstI_some (c := c) HU.out V q, ?_, l.setCell (p := ⟨w.heap.size + 1, 0, none⟩) (by simp) _⟩;exact heap_setCell_same W _ 0 _ _ _ g
  ·simp only [Bool.not_eq_true] at hx;gi_wp2
   refine ⟨Kept.refl _ _, fun j v hj hv => ?_, y, g, C, l⟩;by_cases he : j < k
   ·exact q j v he hv
   ·have : j = k := by omega
    subst this;rw [HU.out] at hv;cases hv;have := HL.out;simp at hx
    omega
 case hdone =>
  rintro W ⟨q, y, g, C, l⟩ A;have q2 : W.cell? ⟨w.heap.size + 1, 0, none⟩ = some (.int .i64 0) := by rw [cell_of_row W _ 0 _ _ (0, 0) g]; rfl
  have q3 : W.frozen? ⟨w.heap.size + 1, 0, none⟩ = false := frozen_of_row W _ 0 _ _ g;gi_wp2
  have g8 := heap_setCell_same W (w.heap.size + 1) 0 _ _ (.int .i64 (-1)) g;have G : (W.setCell ⟨w.heap.size + 1, 0, none⟩ (.int .i64 (-1))).heap[W0.heap.size]? = some (.deferred (some [])) := (heap_setCell_other W ⟨w.heap.size + 1, 0, none⟩ _ _ (by simp; omega)).trans A;refine ⟨by simp, .inl ⟨_, _, rfl, run_takeDeferred G, ?_⟩⟩;have O := (World.putObj_heap_other (o := .deferred none) (show w.heap.size + 1 ≠ W0.heap.size by omega)).trans g8;have i := cell_of_row _ _ 0 _ _ (0, 0) O;refine ⟨.int .i64 (-1), ?_, ret_int (firstI_none fun j u m => q j u (List.getElem?_eq_some_iff.1 m).1 m).symm, (l.setCell (p := ⟨w.heap.size + 1, 0, none⟩) (by simp) _).trans ((Below.refl _ _).grown (grownBy_putObj' _ _ _) (by have := (ltH G); omega) (fun k e => by cases e; omega))⟩;simp at i
  simp [results, Tryz.results278, go_sem, i]
 case hstop =>
  rintro x k W R ⟨rfl, hf, g, l⟩ A;gi_wp2
  refine ⟨by simp, .inl ⟨_, _, rfl, run_takeDeferred A, ?_⟩⟩;have O := (World.putObj_heap_other (o := .deferred none) (show w.heap.size + 1 ≠ W0.heap.size by omega)).trans g;have i := cell_of_row _ _ 0 _ _ (0, 0) O;refine ⟨.int .i64 k, ?_, ret_int hf.symm, l.trans ((Below.refl _ _).grown (grownBy_putObj' _ _ _) (by have := (ltH A); omega) (fun k e => by cases e; omega))⟩;simp at i
  simp [results, Tryz.results278, go_sem, i]
attribute [local go_sem] Oper.semAt_some
structure SCells where
 b : Nat
 off : Nat
 cap : Nat
 way : Nat → WCells
def SetsAt (W : World) (b0 off0 s m : Nat) (c : Nat → SCells) : Prop :=
 ∀ i, i < s → W.cell? ⟨b0, off0 + i, none⟩ = some (.slice (some ⟨(c i).b, (c i).off, none⟩) m (c i).cap) ∧ RowAt W (c i).b (c i).off m (c i).way
theorem setsAt_keep {W W' : World} {b0 off0 s m : Nat} {c : Nat → SCells} (h : SetsAt W b0 off0 s m c) (h0 : W'.heap[b0]? = W.heap[b0]?) (h1 : ∀ i, i < s → W'.heap[(c i).b]? = W.heap[(c i).b]?) : SetsAt W' b0 off0 s m c := fun i hi => by
 obtain ⟨l, g⟩ := h i hi;refine ⟨(World.cell?_of_block (w := W) (a := ⟨b0, _, none⟩) h0).trans l, fun k hk => ?_⟩;obtain ⟨j, f, d⟩ := g k hk;have := h1 i hi;exact ⟨(World.cell?_of_block (w := W) (a := ⟨(c i).b, _, none⟩) this).trans j, (World.cell?_of_block (w := W) (a := ⟨(c i).b, _, none⟩) this).trans f, (World.cell?_of_block (w := W) (a := ⟨(c i).b, _, none⟩) this).trans d⟩
theorem own_blk {β : Type} {B k : Nat} {o : Obj} (h : k < B) : OwnFrom B (fun (_ : β) W => W.heap[k]? = some o) := fun s X Y row hs hg hr =>
 (hg.block k (ltH hs) fun e => by have := (hr k e.symm).1; omega).trans hs
abbrev mark (D : Nat) : Deferred := { target := .collected D, args := #[] }
theorem leaves_marks {fn : Func} {tmps : Array Value} {R : Ending → World → Prop} (H : World → Prop) : ∀ (Ds : List Nat) (w : World), Ds.Nodup → (∀ D ∈ Ds, w.heap[D]? = some (.deferred (some []))) →
    (∀ D ∈ Ds, ∀ w, H w → w.heap[D]? = some (.deferred (some [])) → H (w.putObj D (.deferred none))) → H w → (∀ w, H w → LeavesInM Fence.wide 0 Tryz.prog fn tmps R [] .returning w) → LeavesInM Fence.wide 0 Tryz.prog fn tmps R (Ds.map mark) .returning w
 | [], w, _, _, _, hw, hend => hend w hw
 | D :: Ds, w, hn, hd, hH, hw, hend => by
  refine ⟨by simp, .inl ⟨D, _, rfl, run_takeDeferred (hd D (by simp)), ?_⟩⟩;obtain ⟨a, b⟩ := List.nodup_cons.1 hn;refine leaves_marks H Ds _ b (fun E hE => ?_) (fun E hE => hH E (by simp [hE])) (hH D (by simp) w hw (hd D (by simp))) hend;rw [World.putObj_heap_other (fun e => a (by rw [← e]; exact hE))];exact hd E (by simp [hE])
theorem everyWay1_iter (Bc b0 off0 s m cap0 : Nat) (c : Nat → SCells) (hs : s ≤ 4) (hm : m ≤ 4) (hs0 : 0 < s) (hm0 : 0 < m) :
    Iter Tryz.prog 158 #[.pointer (some ⟨Bc, 0, none⟩)] (fun k => #[.agg #[.int .i64 (k / m : Nat), .int .i64 (k % m : Nat)], ((c (k / m)).way (k % m)).agg]) (s * m)
     (fun W => W.cell? ⟨Bc, 0, none⟩ = some (.slice (some ⟨b0, off0, none⟩) s cap0) ∧ SetsAt W b0 off0 s m c) := by
 intro l J Jx W L lA hR hY h0;obtain ⟨r0, _⟩ := hR 0 W h0;have r1 := World.block_lt_of_cell? W _ r0;simp only at r1
 have H := heap_at W (.cells #[.func (.yield l) #[] #[]] 207);refine callsIn_of_wp_marks Tryz.func158 rfl trivial ?_ rfl;simp only [Tryz.ntmps158, List.size_toArray, List.length_cons, List.length_nil, Nat.reduceAdd, Nat.reduceSub, Array.replicate_succ, Array.replicate_zero, List.push_toArray, List.append_toArray, List.nil_append, List.cons_append];gi_wp2
 have j0 : J 0 (W.alloc (.cells #[.func (.yield l) #[] #[]] 207)) := L.alloc _ h0;have fA : W.heap.size < (W.alloc (.cells #[.func (.yield l) #[] #[]] 207)).heap.size := by simp
 generalize W.alloc (.cells #[.func (.yield l) #[] #[]] 207) = W1 at H j0 fA ⊢
 refine wpIn_loop (fun a wr => ∃ (i : Nat) (Ds : List Nat) (u3 u4 u5 u6 u7 nA cA qA iA kA jA eA mA Z S U I M aA R G : Value), i ≤ s ∧ Ds.Nodup ∧ (∀ D ∈ Ds, W.heap.size ≤ D ∧ wr.heap[D]? = some (.deferred (some []))) ∧ J (i * m) wr ∧ wr.heap[W.heap.size]? = some (.cells #[.func (.yield l) #[] #[]] 207 (0, 0)) ∧
     a = { tmps := #[.func (.yield l) #[] #[], .pointer (some ⟨Bc, 0, none⟩), .pointer (some ⟨W.heap.size, 0, none⟩), u3, u4, u5, u6, u7, .slice (some ⟨b0, off0, none⟩) s cap0, .int .i64 s, .int .i64 i, nA, cA, qA, iA, kA, jA, eA, mA, Z, S, U, I, M, aA, R, G], defers := Ds.map mark })
  (fun a _ => s - (intOf (a.tmps.getD 10 undef)).toNat) ⟨0, [], _, _, _, _, _, _, _, _, _, _, _, _, _, _, _, _, _, _, _, _, _, Nat.zero_le _, List.nodup_nil, by simp, by simpa using j0, H, rfl⟩ ?_
 clear H j0 fA r0 h0;rintro a wr ⟨i, Ds, u3, u4, u5, u6, u7, nA, cA, qA, iA, kA, jA, eA, mA, Z, S, U, I, M, aA, R, G, hi, O, y, hj, T, rfl⟩;by_cases z : i < s
 ·have TA : (i : Int) < (s : Int) := by omega
  obtain ⟨q0, q1⟩ := hR _ wr hj;obtain ⟨q2, q3⟩ := q1 i z;have q4 := World.block_lt_of_cell? wr _ q2;simp only at q4
  clear q1;have HJ : Hid _ := hj;clear hj;gi_wp2
  refine ⟨trivial, rfl, (callsIn_wide.2 (waysOf_any _ _ _ _ rfl _)).mono ?_⟩;rintro e w' ⟨rfl, rfl⟩;gi_wp2
  have f0 := heap_at wr (.cells #[.int .i64 i] 3);have f1 := heap_at (wr.alloc (.cells #[.int .i64 i] 3)) (.cells #[.slice (some ⟨(c i).b, (c i).off, none⟩) m (c i).cap] 127);rw [World.size_alloc] at f1;have gA := heap_on (.cells #[.slice (some ⟨(c i).b, (c i).off, none⟩) m (c i).cap] 127) f0;have C := heap_on (.cells #[.slice (some ⟨(c i).b, (c i).off, none⟩) m (c i).cap] 127) (heap_on (.cells #[.int .i64 i] 3) T);have F : ∀ D ∈ Ds, W.heap.size ≤ D ∧ D < wr.heap.size ∧ ((wr.alloc (.cells #[.int .i64 i] 3)).alloc (.cells #[.slice (some ⟨(c i).b, (c i).off, none⟩) m (c i).cap] 127)).heap[D]? = some (.deferred (some [])) := fun D hD => ⟨(y D hD).1, (Array.getElem?_eq_some_iff.1 (y D hD).2).1, heap_on _ (heap_on _ (y D hD).2)⟩;have dA : J (i * m) ((wr.alloc (.cells #[.int .i64 i] 3)).alloc (.cells #[.slice (some ⟨(c i).b, (c i).off, none⟩) m (c i).cap] 127)) := L.alloc _ (L.alloc _ HJ.out);have sz : ((wr.alloc (.cells #[.int .i64 i] 3)).alloc (.cells #[.slice (some ⟨(c i).b, (c i).off, none⟩) m (c i).cap] 127)).heap.size = wr.heap.size + 1 + 1 := by simp
  have pB : W.heap.size < wr.heap.size := (ltH T);generalize (wr.alloc (.cells #[.int .i64 i] 3)).alloc (.cells #[.slice (some ⟨(c i).b, (c i).off, none⟩) m (c i).cap] 127) = W2 at gA f1 C F dA sz ⊢;clear f0 T y HJ q0 q2 q3 q4;have NO : ∀ (V : World) (D : Nat), (∀ E ∈ Ds, W.heap.size ≤ E ∧ E < wr.heap.size ∧ V.heap[E]? = some (.deferred (some []))) → W2.heap.size ≤ D → V.heap[D]? = some (.deferred (some [])) → (D :: Ds).Nodup ∧ ∀ E ∈ D :: Ds, W.heap.size ≤ E ∧ V.heap[E]? = some (.deferred (some [])) := by
   intro V D h1 h2 h3;refine ⟨List.nodup_cons.2 ⟨fun h => by have := (h1 D h).2.1; omega, O⟩, fun E hE => ?_⟩;rcases List.mem_cons.1 hE with rfl | hE
   ·exact ⟨by omega, h3⟩
   ·exact ⟨(h1 E hE).1, (h1 E hE).2.2⟩
  have oA : Hid _ := NO;clear NO O;refine range_iter (N := m) (lb := #[.pointer (some ⟨wr.heap.size + 1, 0, none⟩)]) (gf := 218) rfl (enters_of Tryz.func218 (by kernel_rfl) rfl)
   (waysOf1_iter (wr.heap.size + 1) (c i).b (c i).off m (c i).cap (c i).way (by omega)) (fun _ => rfl)
   (fun j V => J (i * m + j) V ∧ V.heap[W.heap.size]? = some (.cells #[.func (.yield l) #[] #[]] 207 (0, 0)) ∧ V.heap[wr.heap.size]? = some (.cells #[.int .i64 i] 3 (0, 0)) ∧ V.heap[wr.heap.size + 1]? = some (.cells #[.slice (some ⟨(c i).b, (c i).off, none⟩) m (c i).cap] 127 (0, 0)) ∧ ∀ D ∈ Ds, W.heap.size ≤ D ∧ D < wr.heap.size ∧ V.heap[D]? = some (.deferred (some [])))
   (fun x j V => x = .ret ∧ Jx (i * m + j) V ∧ ∀ D ∈ Ds, W.heap.size ≤ D ∧ D < wr.heap.size ∧ V.heap[D]? = some (.deferred (some [])))
   ?hI ?hIx ?hR ?h0
   (fun j a' V => ∃ B, W2.heap.size < B ∧ V.heap[B]? = some (.cells #[.int .i64 ((c i).way j).line, .int .i64 ((c i).way j).state, .slice ((c i).way j).addr ((c i).way j).len ((c i).way j).cap] 74 (0, 0)) ∧ J (i * m + j) V ∧ V.heap[W.heap.size]? = some (.cells #[.func (.yield l) #[] #[]] 207 (0, 0)) ∧ V.heap[wr.heap.size]? = some (.cells #[.int .i64 i] 3 (0, 0)) ∧ V.heap[wr.heap.size + 1]? = some (.cells #[.slice (some ⟨(c i).b, (c i).off, none⟩) m (c i).cap] 127 (0, 0)) ∧ (∀ D ∈ Ds, W.heap.size ≤ D ∧ D < wr.heap.size ∧ V.heap[D]? = some (.deferred (some []))) ∧
    a' = { tmps := #[.func (.yield l) #[] #[], .pointer (some ⟨Bc, 0, none⟩), .pointer (some ⟨W.heap.size, 0, none⟩), .pointer (some ⟨wr.heap.size, 0, none⟩), .slice (some ⟨(c i).b, (c i).off, none⟩) m (c i).cap, .int .i64 j, .pointer (some ⟨B, 0, none⟩), u7, .slice (some ⟨b0, off0, none⟩) s cap0, .int .i64 s, .int .i64 i, .bool true, .int .i64 i, .pointer (some ⟨b0, off0 + i, none⟩), .slice (some ⟨(c i).b, (c i).off, none⟩) m (c i).cap, .slice (some ⟨(c i).b, (c i).off, none⟩) m (c i).cap, .func (.func 218) #[] #[.pointer (some ⟨wr.heap.size + 1, 0, none⟩)], .int .i64 j, ((c i).way j).agg, Z, S, U, I, M, aA, R, G], defers := [] })
   ?hA ?hassign ?hbody ?hdone ?hstop
  case hI =>
   rintro j X Y f ⟨g, n, v, r, d⟩ p o
   exact ⟨own_later L (by omega) _ X Y f g p o, own_heap (β := Unit) _ _ _ _ () X Y f n p o, own_heap (β := Unit) _ _ _ _ () X Y f v p o, own_heap (β := Unit) _ _ _ _ () X Y f r p o,
    fun D hD => ⟨(d D hD).1, (d D hD).2.1, own_blk (β := Unit) (by have := (d D hD).2.1; omega) () X Y f (d D hD).2.2 p o⟩⟩
  case hIx =>
   rintro x j X Y f ⟨g0, g, d⟩ p o;exact ⟨g0, own_later lA (by omega) _ X Y f g p o, fun D hD => ⟨(d D hD).1, (d D hD).2.1, own_blk (β := Unit) (by have := (d D hD).2.1; omega) () X Y f (d D hD).2.2 p o⟩⟩
  case hR =>
   rintro j V ⟨g, _, _, r, _⟩;exact ⟨by rw [cell_of_row V _ 0 _ _ (0, 0) r]; rfl, ((hR _ V g).2 i z).2⟩
  case h0 => exact ⟨dA, C, gA, f1, F⟩
  case hA =>
   rintro j a' ⟨⟩ X Y f ⟨B, g0, g6, g, n, v, r, d, rfl⟩ p o
   exact ⟨B, g0, own_heap (β := Unit) _ _ _ _ () X Y f g6 p o, own_later L (by omega) _ X Y f g p o, own_heap (β := Unit) _ _ _ _ () X Y f n p o, own_heap (β := Unit) _ _ _ _ () X Y f v p o, own_heap (β := Unit) _ _ _ _ () X Y f r p o,
    fun D hD => ⟨(d D hD).1, (d D hD).2.1, own_blk (β := Unit) (by have := (d D hD).2.1; omega) () X Y f (d D hD).2.2 p o⟩, rfl⟩
  case hassign =>
   rintro j V K A ⟨g, n, v, r, d⟩ hv hK;gi_wp2
   exact hK _ _ (Kept.alloc _ _ _) ⟨V.heap.size, by omega, heap_at _ _, L.alloc _ g, heap_on _ n, heap_on _ v, heap_on _ r, fun D hD => ⟨(d D hD).1, (d D hD).2.1, heap_on _ (d D hD).2.2⟩, rfl⟩
  case hbody =>
   rintro j a' V A ⟨B, g0, g6, g, n, v, r, d, rfl⟩ hv _ _;have y0 : V.cell? ⟨W.heap.size, 0, none⟩ = some (.func (.yield l) #[] #[]) := by rw [cell_of_row V _ 0 _ _ (0, 0) n]; rfl
   have y1 : V.cell? ⟨wr.heap.size, 0, none⟩ = some (.int .i64 i) := by rw [cell_of_row V _ 0 _ _ (0, 0) v]; rfl
   have y2 : V.cell? ⟨B, 0, none⟩ = some (.int .i64 ((c i).way j).line) := by rw [cell_of_row V _ 0 _ _ (0, 0) g6]; rfl
   have y3 : V.cell? ⟨B, 1, none⟩ = some (.int .i64 ((c i).way j).state) := by rw [cell_of_row V _ 1 _ _ (0, 0) g6]; rfl
   have y4 : V.cell? ⟨B, 2, none⟩ = some (.slice ((c i).way j).addr ((c i).way j).len ((c i).way j).cap) := by rw [cell_of_row V _ 2 _ _ (0, 0) g6]; rfl
   have d1 : (i * m + j) / m = i := by rw [Nat.mul_comm, Nat.mul_add_div hm0, Nat.div_eq_of_lt A, Nat.add_zero]
   have d2 : (i * m + j) % m = j := by rw [Nat.mul_comm, Nat.mul_add_mod, Nat.mod_eq_of_lt A]
   have d3 : i * m + j < s * m := by
    have : (i + 1) * m ≤ s * m := Nat.mul_le_mul_right _ z;rw [Nat.add_one_mul] at this;omega
   obtain ⟨fn, tmps, sA, OA, hy, MA⟩ := hY (i * m + j) V d3 g;rw [d1, d2] at hy;clear d1 d2;have bw : W.heap.size < V.heap.size := (ltH n);have HG : Hid _ := And.intro n (And.intro v (And.intro r d));clear g n v r d g6 d3;gi_wp2
   refine ⟨rfl, MA.mono ?_⟩;rintro e W3 ⟨q, ⟨rfl, HA⟩ | ⟨rfl, LA⟩⟩
   ·gi_wp2
    obtain ⟨n, v, r, d⟩ := HG.out;refine ⟨q.mono (by omega), HA, (q.2 _ (Nat.le_refl _) bw).trans n, (q.2 _ (by omega) (by omega)).trans v, (q.2 _ (by omega) (by omega)).trans r, fun D hD => ⟨(d D hD).1, (d D hD).2.1, (q.2 _ (d D hD).1 (by have := (d D hD).2.1; omega)).trans (d D hD).2.2⟩⟩
   ·gi_wp2
    obtain ⟨n, v, r, d⟩ := HG.out;refine ⟨q.mono (by omega), rfl, LA, fun D hD => ⟨(d D hD).1, (d D hD).2.1, (q.2 _ (d D hD).1 (by have := (d D hD).2.1; omega)).trans (d D hD).2.2⟩⟩
  case hdone =>
   rintro V ⟨g, n, v, r, d⟩ hK;obtain ⟨n1, n2⟩ := oA.out V _ d (Nat.le_refl _) hK;gi_wp2
   refine ⟨⟨i + 1, W2.heap.size :: Ds, _, _, _, _, _, _, _, _, _, _, _, _, _, _, _, _, _, _, _, _, _, z, n1, n2, by rw [Nat.add_one_mul]; exact g, n, rfl⟩, ?_⟩;simp [intOf]
   omega
  case hstop =>
   rintro x j V A ⟨rfl, g, d⟩ hK;obtain ⟨n1, n2⟩ := oA.out V _ d (Nat.le_refl _) hK;have d3 : i * m + j < s * m := by
    have : (i + 1) * m ≤ s * m := Nat.mul_le_mul_right _ z;rw [Nat.add_one_mul] at this;omega
   gi_wp2
   refine leaves_marks (fun V => Jx (i * m + j) V) (W2.heap.size :: Ds) V n1 (fun D hD => (n2 D hD).2) (fun D hD V' h hd => lA.putObj _ h (n2 D hD).1 hd rfl) g ?_;intro V' h';exact ⟨_, results_none rfl _ _ _, ⟨_, rfl⟩, .inr ⟨_, d3, h'⟩⟩
 ·have KA : i = s := by omega
  subst KA;gi_wp2
  refine leaves_marks (fun V => J (i * m) V) Ds wr O (fun D hD => (y D hD).2) (fun D hD V' h hd => L.putObj _ h (y D hD).1 hd rfl) hj ?_;intro V' h';exact ⟨_, results_none rfl _ _ _, ⟨_, rfl⟩, .inl h'⟩
end Go.Proofs.YtdamokokcdcedaaGreatDoor
