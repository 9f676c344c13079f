import Derived.Test.YtmdhblhdfcocjaaGreatDoorP00Box
import Derived.Test.YtmdhblhdfcocjaaGreatDoorP07
import Derived.RangeFuncCalls
import Derived.Shelf.RegionOpen
import Derived.OwnWalkIn
import Derived.TacticsInMore
import Derived.LoopNIn
import Derived.LoopIn
namespace Go.Proofs.YtmdhblhdfcocjaaGreatDoor
set_option maxHeartbeats 4000000
open Go.ChangeShapes Go.WideShapes Go.ChangeAt Go.RowKit Go.Shelf
set_option linter.unusedVariables false
attribute [local go_sem] Oper.semAt_some
structure WCells where
 line : Int
 state : Int
 addr : Option Addr
 len : Nat
 cap : Nat
abbrev WCells.agg (c : WCells) : Value := .agg #[.int .i64 c.line, .int .i64 c.state, .slice c.addr c.len c.cap]
def zJT (W : World) (b off n : Nat) (c : Nat → WCells) : Prop :=
 ∀ k, k < n → W.cell? ⟨b, off + k * 3, none⟩ = some (.int .i64 (c k).line) ∧ W.cell? ⟨b, off + k * 3 + 1, none⟩ = some (.int .i64 (c k).state) ∧ W.cell? ⟨b, off + k * 3 + 2, none⟩ = some (.slice (c k).addr (c k).len (c k).cap)
theorem zFO (Bs b off n cap : Nat) (c : Nat → WCells) (hn : n ≤ 1048576) :
    Iter Tryz.prog 147 #[.pointer (some ⟨Bs, 0, none⟩)] (fun k => #[nI k, (c k).agg]) n
     (fun W => W.cell? ⟨Bs, 0, none⟩ = some (sL (some ⟨b, off, none⟩) n cap) ∧ zJT W b off n c) := by
 intro l J Jx W y v o A q;obtain ⟨r0, _⟩ := o 0 W q;refine callsIn_of_wp Tryz.func147 rfl trivial ?_ rfl;simp only [Tryz.ntmps147, List.size_toArray, List.length_cons, List.length_nil, Nat.reduceAdd, Nat.reduceSub, Array.replicate_succ, Array.replicate_zero, List.push_toArray, List.append_toArray, List.nil_append, List.cons_append];gi_wp2
 gi_loopw [7] (fun p wr => ∃ k : Nat, k ≤ n ∧ p = nI k ∧ J k wr) (fun p _ => n - (intOf p).toNat)
 case atStart => exact ⟨0, Nat.zero_le _, rfl, q⟩
 case round =>
  obtain ⟨k, hk, rfl, g⟩ := hrel;by_cases a : k < n
  ·have s : (k : Int) < (n : Int) := by omega
   obtain ⟨q0, z⟩ := o k wr g;obtain ⟨c0, c1, c2⟩ := z k a;obtain ⟨fn, r, d, m, hy, i⟩ := A k (wr.alloc (.cells #[nI (c k).line, nI (c k).state, sL (c k).addr (c k).len (c k).cap] 39)) a (y.alloc _ g);gi_wp2
   refine ⟨rfl, i.mono ?_⟩;rintro e W3 ⟨_, ⟨rfl, j⟩ | ⟨rfl, f⟩⟩
   ·gi_wp2
    go_roundw
    case rel => exact ⟨k + 1, by omega, by go_num, j⟩
    case measure => simp [intOf]; omega
   ·gi_wp2
    refine bodyPost_ret (results_none rfl _ _ _) rfl ?_;exact ⟨⟨_, rfl⟩, .inr ⟨k, a, f⟩⟩
  ·gi_wp2
   go_end0
   exact ⟨⟨_, rfl⟩, .inl (by have : k = n := by omega
                             subst this; exact g)⟩
attribute [local go_sem] Oper.semAt_some
theorem zLc {w : World} {a : Option Addr} {row : List zAT} (h : zBg zAR w a row) (hne : row ≠ []) :
    ∃ b f c, a = some ⟨b, f, none⟩ ∧ zJT w b f row.length c ∧ ∀ k u, row[k]? = some u → (c k).line = u.1 ∧ (c k).state = u.2.1 ∧ (c k).len = u.2.2.length ∧ u.2.2.length ≤ (c k).cap ∧ (c k).cap ≤ maxLen ∧ zBg zBC w (c k).addr u.2.2 := by
 have l := h;rcases l with l | ⟨b, f, m, rfl, _, _⟩
 ·exact absurd l hne
 have g : ∀ k : Nat, ∃ x : WCells, ∀ u, row[k]? = some u → (w.cell? ⟨b, f + k * 3, none⟩ = some (nI x.line) ∧ w.cell? ⟨b, f + k * 3 + 1, none⟩ = some (nI x.state) ∧ w.cell? ⟨b, f + k * 3 + 2, none⟩ = some (sL x.addr x.len x.cap)) ∧
     x.line = u.1 ∧ x.state = u.2.1 ∧ x.len = u.2.2.length ∧ u.2.2.length ≤ x.cap ∧ x.cap ≤ maxLen ∧ zBg zBC w x.addr u.2.2 := by
  intro k;cases j : row[k]? with
  | none => exact ⟨⟨0, 0, none, 0, 0⟩, fun u hu => by cases hu⟩
  | some u =>
   obtain ⟨b', n, cs, q, i, d⟩ := zBG h j;cases q;obtain ⟨p, cap, rfl, i1, i2, s, v, r⟩ := zAK i;refine ⟨⟨u.1, u.2.1, p, u.2.2.length, cap⟩, fun u' hu => ?_⟩;cases hu;exact ⟨⟨d 0 _ rfl, d 1 _ rfl, d 2 _ rfl⟩, rfl, rfl, rfl, s, v, r⟩
 obtain ⟨c, o⟩ := Classical.axiomOfChoice g;refine ⟨b, f, c, rfl, fun k j => (o k _ (List.getElem?_eq_getElem j)).1, fun k u hu => (o k u hu).2⟩
theorem zJU {w w' : World} {b off n D : Nat} {c : Nat → WCells} (h : zJT w b off n c) (hb : Below D w w') (hD : ∀ k, k < n → b < D) : zJT w' b off n c := fun k hk => by
 obtain ⟨f, d, g⟩ := h k hk;have := hb.block b (hD k hk);exact ⟨(World.cell?_of_block (w := w) (a := ⟨b, _, none⟩) this).trans f, (World.cell?_of_block (w := w) (a := ⟨b, _, none⟩) this).trans d, (World.cell?_of_block (w := w) (a := ⟨b, _, none⟩) this).trans g⟩
theorem zLd {w : World} {b off n : Nat} {c : Nat → WCells} (h : zJT w b off n c) (hn : 0 < n) : b < w.heap.size := World.block_lt_of_cell? w _ (h 0 hn).1
def zCm (row : List zAT) (line : Int) : Int := match row.findIdx? fun u => u.1 == line with
 | some i => (i : Int)
 | none => -1
theorem zJV {row : List zAT} {line : Int} {c : Nat → WCells} {k : Nat} {u : zAT} (hu : row[k]? = some u) (hl : u.1 = line) (hno : ∀ j u, j < k → row[j]? = some u → u.1 ≠ line) : zCm row line = k := by
 have a := (List.getElem?_eq_some_iff.1 hu).1;have : row.findIdx? (fun u => u.1 == line) = some k := by
  rw [List.findIdx?_eq_some_iff_getElem];refine ⟨a, ?_, fun j hj => ?_⟩
  ·rw [List.getElem?_eq_getElem a] at hu;cases hu;simpa using hl
  ·simpa using hno j _ hj (List.getElem?_eq_getElem (by omega))
 unfold zCm;rw [this]
theorem zJW {row : List zAT} {line : Int} (hno : ∀ (j : Nat) (u : zAT), row[j]? = some u → u.1 ≠ line) : zCm row line = -1 := by
 have : row.findIdx? (fun u => u.1 == line) = none := by
  rw [List.findIdx?_eq_none_iff];intro u b;obtain ⟨j, a⟩ := List.mem_iff_getElem?.1 b;simpa using hno j u a
 unfold zCm;rw [this]
theorem zH8 (v : Value) (a : Option Addr) (n cap : Nat) (hv : v = sL a n cap) (w : World) :
    Calls Tryz.prog 121 #[v] w fun e w' => e = .returned (.func (.func 147) #[] #[.pointer (some ⟨w.heap.size, 0, none⟩)]) ∧ w' = w.alloc (.cells #[v] 115) := by
 subst hv;go_enter Tryz.func121, Tryz.ntmps121;go_wp2;go_ret
 exact ⟨rfl, rfl⟩
theorem zFl (a : Option Addr) (row : List zAT) (cap : Nat) (line : Int) (w : World) (h : zBg zAR w a row) (hne : row ≠ []) (hm : row.length ≤ 1048576) :
    Calls Tryz.prog 118 #[sL a row.length cap, nI line] w fun e w' => e = .returned (nI (zCm row line)) ∧ Bl w w' := by
 obtain ⟨b, d, c, rfl, q, hc⟩ := zLc h hne;have E : 0 < row.length := List.length_pos_iff.2 hne;have H := zLd q E;have HC : Hid (∀ (k : Nat) (u : zAT), row[k]? = some u → (c k).line = u.1) := fun k u m => (hc k u m).1;clear h hc;refine (callsIn_wide (n := 0)).1 ?_;refine callsIn_of_wp_marks Tryz.func118 rfl trivial ?_ rfl;simp only [Tryz.ntmps118, List.size_toArray, List.length_cons, List.length_nil, Nat.reduceAdd, Nat.reduceSub, Array.replicate_succ, Array.replicate_zero, List.push_toArray, List.append_toArray, List.nil_append, List.cons_append];gi_wp2
 refine ⟨trivial, rfl, (callsIn_wide.2 (zH8 _ _ _ _ rfl _)).mono ?_⟩;rintro e w' ⟨rfl, rfl⟩;gi_wp2
 have e1 : (w.alloc (.cells #[nI line] 2)).heap.size = w.heap.size + 1 := by simp
 have e2 : ((w.alloc (.cells #[nI line] 2)).alloc (.cells #[nI 0] 2)).heap.size = w.heap.size + 1 + 1 := by simp
 have k0 := zAy w (.cells #[nI line] 2);have U := zAy (w.alloc (.cells #[nI line] 2)) (.cells #[nI 0] 2);have O := zAy ((w.alloc (.cells #[nI line] 2)).alloc (.cells #[nI 0] 2)) (.cells #[sL (some ⟨b, d, none⟩) row.length cap] 115);rw [e1] at U;rw [e2] at O;have G := zAJ (.cells #[sL (some ⟨b, d, none⟩) row.length cap] 115) (zAJ (.cells #[nI 0] 2) k0);have I := zAJ (.cells #[sL (some ⟨b, d, none⟩) row.length cap] 115) U;have F : Bl w (((w.alloc (.cells #[nI line] 2)).alloc (.cells #[nI 0] 2)).alloc (.cells #[sL (some ⟨b, d, none⟩) row.length cap] 115)) :=
  (((Below.refl _ w).alloc (Nat.le_refl _) _).alloc (by simp) _).alloc (by simp; omega) _
 clear k0 U;have e3 : (((w.alloc (.cells #[nI line] 2)).alloc (.cells #[nI 0] 2)).alloc (.cells #[sL (some ⟨b, d, none⟩) row.length cap] 115)).heap.size = w.heap.size + 1 + 1 + 1 := by simp
 generalize (((w.alloc (.cells #[nI line] 2)).alloc (.cells #[nI 0] 2)).alloc (.cells #[sL (some ⟨b, d, none⟩) row.length cap] 115)) = W0 at G I O F e3 ⊢;clear e1 e2;refine zE3 (N := row.length) (lb := #[.pointer (some ⟨w.heap.size + 1 + 1, 0, none⟩)]) (gf := 147) rfl (enters_of Tryz.func147 (by kernel_rfl) rfl)
  (zFO (w.heap.size + 1 + 1) b d row.length cap c hm) (fun _ => rfl)
  (fun k W => (∀ j u, j < k → row[j]? = some u → u.1 ≠ line) ∧ W.heap[w.heap.size]? = some (.cells #[nI line] 2 (0, 0)) ∧ W.heap[w.heap.size + 1]? = some (.cells #[nI 0] 2 (0, 0)) ∧ W.heap[w.heap.size + 1 + 1]? = some (.cells #[sL (some ⟨b, d, none⟩) row.length cap] 115 (0, 0)) ∧ Bl w W)
  (fun x k W => x = .ret ∧ zCm row line = k ∧ W.heap[w.heap.size + 1]? = some (.cells #[nI k] 2 (0, 0)) ∧ Bl w W)
  ?hI ?hIx ?hR ?h0
  (fun k T W => ∃ B, W0.heap.size < B ∧ W.heap[B]? = some (.cells #[nI (c k).line, nI (c k).state, sL (c k).addr (c k).len (c k).cap] 39 (0, 0)) ∧ (∀ j u, j < k → row[j]? = some u → u.1 ≠ line) ∧ W.heap[w.heap.size]? = some (.cells #[nI line] 2 (0, 0)) ∧ W.heap[w.heap.size + 1]? = some (.cells #[nI 0] 2 (0, 0)) ∧ W.heap[w.heap.size + 1 + 1]? = some (.cells #[sL (some ⟨b, d, none⟩) row.length cap] 115 (0, 0)) ∧ Bl w W ∧
   T = { tmps := #[sL (some ⟨b, d, none⟩) row.length cap, nI line, undef, .pointer (some ⟨w.heap.size, 0, none⟩), .pointer (some ⟨w.heap.size + 1, 0, none⟩), nI k, .pointer (some ⟨B, 0, none⟩), sL (some ⟨b, d, none⟩) row.length cap, .func (.func 147) #[] #[.pointer (some ⟨w.heap.size + 1 + 1, 0, none⟩)], nI k, (c k).agg, undef, undef, undef, undef, undef], defers := [] })
  ?hA ?hassign ?hbody ?hdone ?hstop
 case hI => exact OwnFrom.and (ownFrom_pure _ _) (OwnFrom.and (zBo _ _ _ _) (OwnFrom.and (zBo _ _ _ _) (OwnFrom.and (zBo _ _ _ _) (ownFrom_below (Nat.le_refl _) (by omega)))))
 case hIx => exact fun x => OwnFrom.and (ownFrom_pure _ _) (OwnFrom.and (ownFrom_pure _ _) (OwnFrom.and (fun k X Y f hs z s => zBo (β := Unit) _ _ _ _ () X Y f hs z s) (ownFrom_below (Nat.le_refl _) (by omega))))
 case hR =>
  rintro k W ⟨_, _, _, h3, hB⟩;exact ⟨by rw [cell_of_row W _ 0 _ _ (0, 0) h3]; rfl, zJU q hB (fun _ _ => H)⟩
 case h0 => exact ⟨fun j u hj => by omega, G, I, O, F⟩
 case hA =>
  rintro k T ⟨⟩ X Y f ⟨B, g1, L, r, y, g, A, l, rfl⟩ z s;exact ⟨B, g1, zBo (β := Unit) _ _ _ _ () X Y f L z s, r, zBo (β := Unit) _ _ _ _ () X Y f y z s, zBo (β := Unit) _ _ _ _ () X Y f g z s, zBo (β := Unit) _ _ _ _ () X Y f A z s, ownFrom_below (β := Unit) (Nat.le_refl _) (by omega) () X Y f l z s, rfl⟩
 case hassign =>
  rintro k W K V ⟨r, y, g, A, l⟩ Z C;gi_wp2
  refine C _ _ (Kept.alloc _ _ _) ⟨W.heap.size, by omega, zAy _ _, r, zAJ _ y, zAJ _ g, zAJ _ A, l.alloc (by omega) _, rfl⟩
 case hbody =>
  rintro k T W V ⟨B, g1, L, r, y, g, A, l, rfl⟩ Z _ _;have q0 : W.cell? ⟨B, 0, none⟩ = some (nI (c k).line) := by rw [cell_of_row W _ 0 _ _ (0, 0) L]; rfl
  have q1 : W.cell? ⟨w.heap.size, 0, none⟩ = some (nI line) := by rw [cell_of_row W _ 0 _ _ (0, 0) y]; rfl
  have q2 : W.cell? ⟨w.heap.size + 1, 0, none⟩ = some (nI 0) := by rw [cell_of_row W _ 0 _ _ (0, 0) g]; rfl
  have q3 : W.frozen? ⟨w.heap.size + 1, 0, none⟩ = false := frozen_of_row W _ 0 _ _ g;have m : row[k]? = some row[k] := List.getElem?_eq_getElem V;have M := HC.out k _ m;generalize row[k] = u at m M;have HU : Hid (row[k]? = some u) := m;have HL : Hid ((c k).line = u.1) := M;clear m M;by_cases hx : ((c k).line == line) = true
  ·gi_wp2
   have R : u.1 = line := by have := HL.out; simp at hx; omega
   refine ⟨Kept.chg (S := fun j => j = w.heap.size + 1) (zCR (grownBy_setCell' W (w.heap.size + 1) _) rfl) (fun j e => by omega), rfl, zJV (c := c) HU.out R r, ?_, l.setCell (p := ⟨w.heap.size + 1, 0, none⟩) (by simp) _⟩;exact heap_setCell_same W _ 0 _ _ _ g
  ·simp only [Bool.not_eq_true] at hx;gi_wp2
   refine ⟨Kept.refl _ _, fun j v hj hv => ?_, y, g, A, l⟩;by_cases he : j < k
   ·exact r j v he hv
   ·have : j = k := by omega
    subst this;rw [HU.out] at hv;cases hv;have := HL.out;simp at hx
    omega
 case hdone =>
  rintro W ⟨r, y, g, A, l⟩ C;have q2 : W.cell? ⟨w.heap.size + 1, 0, none⟩ = some (nI 0) := by rw [cell_of_row W _ 0 _ _ (0, 0) g]; rfl
  have q3 : W.frozen? ⟨w.heap.size + 1, 0, none⟩ = false := frozen_of_row W _ 0 _ _ g;gi_wp2
  have g8 := heap_setCell_same W (w.heap.size + 1) 0 _ _ (nI (-1)) g;have D : (W.setCell ⟨w.heap.size + 1, 0, none⟩ (nI (-1))).heap[W0.heap.size]? = some (.deferred (some [])) := (heap_setCell_other W ⟨w.heap.size + 1, 0, none⟩ _ _ (by simp; omega)).trans C;refine ⟨by simp, .inl ⟨_, _, rfl, run_takeDeferred D, ?_⟩⟩;have J := (World.putObj_heap_other (o := .deferred none) (show w.heap.size + 1 ≠ W0.heap.size by omega)).trans g8;have i := cell_of_row _ _ 0 _ _ (0, 0) J;refine ⟨nI (-1), ?_, zAV (zJW fun j u m => r j u (List.getElem?_eq_some_iff.1 m).1 m).symm, (l.setCell (p := ⟨w.heap.size + 1, 0, none⟩) (by simp) _).trans ((Below.refl _ _).grown (grownBy_putObj' _ _ _) (by have := (ltH D); omega) (fun k e => by cases e; omega))⟩;simp at i
  simp [results, Tryz.results118, go_sem, i]
 case hstop =>
  rintro x k W V ⟨rfl, hf, g, l⟩ C;gi_wp2
  refine ⟨by simp, .inl ⟨_, _, rfl, run_takeDeferred C, ?_⟩⟩;have J := (World.putObj_heap_other (o := .deferred none) (show w.heap.size + 1 ≠ W0.heap.size by omega)).trans g;have i := cell_of_row _ _ 0 _ _ (0, 0) J;refine ⟨nI k, ?_, zAV hf.symm, l.trans ((Below.refl _ _).grown (grownBy_putObj' _ _ _) (by have := (ltH C); omega) (fun k e => by cases e; omega))⟩;simp at i
  simp [results, Tryz.results118, go_sem, i]
attribute [local go_sem] Oper.semAt_some
structure SCells where
 b : Nat
 off : Nat
 cap : Nat
 way : Nat → WCells
def zH9 (W : World) (b0 off0 s m : Nat) (c : Nat → SCells) : Prop :=
 ∀ i, i < s → W.cell? ⟨b0, off0 + i, none⟩ = some (.slice (some ⟨(c i).b, (c i).off, none⟩) m (c i).cap) ∧ zJT W (c i).b (c i).off m (c i).way
theorem zJX {W W' : World} {b0 off0 s m : Nat} {c : Nat → SCells} (h : zH9 W b0 off0 s m c) (h0 : W'.heap[b0]? = W.heap[b0]?) (h1 : ∀ i, i < s → W'.heap[(c i).b]? = W.heap[(c i).b]?) : zH9 W' b0 off0 s m c := fun i hi => by
 obtain ⟨d, f⟩ := h i hi;refine ⟨(World.cell?_of_block (w := W) (a := ⟨b0, _, none⟩) h0).trans d, fun k hk => ?_⟩;obtain ⟨g, j, l⟩ := f k hk;have := h1 i hi;exact ⟨(World.cell?_of_block (w := W) (a := ⟨(c i).b, _, none⟩) this).trans g, (World.cell?_of_block (w := W) (a := ⟨(c i).b, _, none⟩) this).trans j, (World.cell?_of_block (w := W) (a := ⟨(c i).b, _, none⟩) this).trans l⟩
theorem zJY {β : Type} {B k : Nat} {o : Obj} (h : k < B) : OwnFrom B (fun (_ : β) W => W.heap[k]? = some o) := fun s X Y row hs hg hr =>
 (hg.block k (ltH hs) fun e => by have := (hr k e.symm).1; omega).trans hs
abbrev mark (D : Nat) : Deferred := { target := .collected D, args := #[] }
theorem zEm {fn : Func} {tmps : Array Value} {R : Ending → World → Prop} (H : World → Prop) : ∀ (Ds : List Nat) (w : World), Ds.Nodup → (∀ D ∈ Ds, w.heap[D]? = some (.deferred (some []))) →
    (∀ D ∈ Ds, ∀ w, H w → w.heap[D]? = some (.deferred (some [])) → H (w.putObj D (.deferred none))) → H w → (∀ w, H w → LeavesInM Fence.wide 0 Tryz.prog fn tmps R [] .returning w) → LeavesInM Fence.wide 0 Tryz.prog fn tmps R (Ds.map mark) .returning w
 | [], w, _, _, _, hw, hend => hend w hw
 | D :: Ds, w, hn, hd, hH, hw, hend => by
  refine ⟨by simp, .inl ⟨D, _, rfl, run_takeDeferred (hd D (by simp)), ?_⟩⟩;obtain ⟨b, a⟩ := List.nodup_cons.1 hn;refine zEm H Ds _ a (fun E hE => ?_) (fun E hE => hH E (by simp [hE])) (hH D (by simp) w hw (hd D (by simp))) hend;rw [World.putObj_heap_other (fun e => b (by rw [← e]; exact hE))];exact hd E (by simp [hE])
theorem zEK (Bc b0 off0 s m cap0 : Nat) (c : Nat → SCells) (hs : s ≤ 4) (hm : m ≤ 4) (hs0 : 0 < s) (hm0 : 0 < m) :
    Iter Tryz.prog 120 #[.pointer (some ⟨Bc, 0, none⟩)] (fun k => #[.agg #[nI (k / m : Nat), nI (k % m : Nat)], ((c (k / m)).way (k % m)).agg]) (s * m)
     (fun W => W.cell? ⟨Bc, 0, none⟩ = some (sL (some ⟨b0, off0, none⟩) s cap0) ∧ zH9 W b0 off0 s m c) := by
 intro l J Jx W T eA hR hY h0;obtain ⟨r0, _⟩ := hR 0 W h0;have r1 := World.block_lt_of_cell? W _ r0;simp only at r1
 have Z := zAy W (.cells #[.func (.yield l) #[] #[]] 149);refine callsIn_of_wp_marks Tryz.func120 rfl trivial ?_ rfl;simp only [Tryz.ntmps120, List.size_toArray, List.length_cons, List.length_nil, Nat.reduceAdd, Nat.reduceSub, Array.replicate_succ, Array.replicate_zero, List.push_toArray, List.append_toArray, List.nil_append, List.cons_append];gi_wp2
 have j0 : J 0 (W.alloc (.cells #[.func (.yield l) #[] #[]] 149)) := T.alloc _ h0;have pA : W.heap.size < (W.alloc (.cells #[.func (.yield l) #[] #[]] 149)).heap.size := by simp
 generalize W.alloc (.cells #[.func (.yield l) #[] #[]] 149) = W1 at Z j0 pA ⊢
 refine wpIn_loop (fun a wr => ∃ (i : Nat) (Ds : List Nat) (u3 u4 u5 u6 u7 mA fA gA cA nA qA lA iA R H O I S G U L : Value), i ≤ s ∧ Ds.Nodup ∧ (∀ D ∈ Ds, W.heap.size ≤ D ∧ wr.heap[D]? = some (.deferred (some []))) ∧ J (i * m) wr ∧ wr.heap[W.heap.size]? = some (.cells #[.func (.yield l) #[] #[]] 149 (0, 0)) ∧
     a = { tmps := #[.func (.yield l) #[] #[], .pointer (some ⟨Bc, 0, none⟩), .pointer (some ⟨W.heap.size, 0, none⟩), u3, u4, u5, u6, u7, sL (some ⟨b0, off0, none⟩) s cap0, nI s, nI i, mA, fA, gA, cA, nA, qA, lA, iA, R, H, O, I, S, G, U, L], defers := Ds.map mark })
  (fun a _ => s - (intOf (a.tmps.getD 10 undef)).toNat) ⟨0, [], _, _, _, _, _, _, _, _, _, _, _, _, _, _, _, _, _, _, _, _, _, Nat.zero_le _, List.nodup_nil, by simp, by simpa using j0, Z, rfl⟩ ?_
 clear Z j0 pA r0 h0;rintro a wr ⟨i, Ds, u3, u4, u5, u6, u7, mA, fA, gA, cA, nA, qA, lA, iA, R, H, O, I, S, G, U, L, hi, aA, v, hj, M, rfl⟩;by_cases z : i < s
 ·have RA : (i : Int) < (s : Int) := by omega
  obtain ⟨q0, q1⟩ := hR _ wr hj;obtain ⟨q2, q3⟩ := q1 i z;have q4 := World.block_lt_of_cell? wr _ q2;simp only at q4
  clear q1;have HJ : Hid _ := hj;clear hj;gi_wp2
  refine ⟨trivial, rfl, (callsIn_wide.2 (zH8 _ _ _ _ rfl _)).mono ?_⟩;rintro e w' ⟨rfl, rfl⟩;gi_wp2
  have f0 := zAy wr (.cells #[nI i] 3);have f1 := zAy (wr.alloc (.cells #[nI i] 3)) (.cells #[sL (some ⟨(c i).b, (c i).off, none⟩) m (c i).cap] 115);rw [World.size_alloc] at f1;have kA := zAJ (.cells #[sL (some ⟨(c i).b, (c i).off, none⟩) m (c i).cap] 115) f0;have F := zAJ (.cells #[sL (some ⟨(c i).b, (c i).off, none⟩) m (c i).cap] 115) (zAJ (.cells #[nI i] 3) M);have C : ∀ D ∈ Ds, W.heap.size ≤ D ∧ D < wr.heap.size ∧ ((wr.alloc (.cells #[nI i] 3)).alloc (.cells #[sL (some ⟨(c i).b, (c i).off, none⟩) m (c i).cap] 115)).heap[D]? = some (.deferred (some [])) := fun D hD => ⟨(v D hD).1, (Array.getElem?_eq_some_iff.1 (v D hD).2).1, zAJ _ (zAJ _ (v D hD).2)⟩;have jA : J (i * m) ((wr.alloc (.cells #[nI i] 3)).alloc (.cells #[sL (some ⟨(c i).b, (c i).off, none⟩) m (c i).cap] 115)) := T.alloc _ (T.alloc _ HJ.out);have sz : ((wr.alloc (.cells #[nI i] 3)).alloc (.cells #[sL (some ⟨(c i).b, (c i).off, none⟩) m (c i).cap] 115)).heap.size = wr.heap.size + 1 + 1 := by simp
  have pB : W.heap.size < wr.heap.size := (ltH M);generalize (wr.alloc (.cells #[nI i] 3)).alloc (.cells #[sL (some ⟨(c i).b, (c i).off, none⟩) m (c i).cap] 115) = W2 at kA f1 F C jA sz ⊢;clear f0 M v HJ q0 q2 q3 q4;have NO : ∀ (V : World) (D : Nat), (∀ E ∈ Ds, W.heap.size ≤ E ∧ E < wr.heap.size ∧ V.heap[E]? = some (.deferred (some []))) → W2.heap.size ≤ D → V.heap[D]? = some (.deferred (some [])) → (D :: Ds).Nodup ∧ ∀ E ∈ D :: Ds, W.heap.size ≤ E ∧ V.heap[E]? = some (.deferred (some [])) := by
   intro V D h1 h2 h3;refine ⟨List.nodup_cons.2 ⟨fun h => by have := (h1 D h).2.1; omega, aA⟩, fun E hE => ?_⟩;rcases List.mem_cons.1 hE with rfl | hE
   ·exact ⟨by omega, h3⟩
   ·exact ⟨(h1 E hE).1, (h1 E hE).2.2⟩
  have oA : Hid _ := NO;clear NO aA;refine zE3 (N := m) (lb := #[.pointer (some ⟨wr.heap.size + 1, 0, none⟩)]) (gf := 147) rfl (enters_of Tryz.func147 (by kernel_rfl) rfl)
   (zFO (wr.heap.size + 1) (c i).b (c i).off m (c i).cap (c i).way (by omega)) (fun _ => rfl)
   (fun j V => J (i * m + j) V ∧ V.heap[W.heap.size]? = some (.cells #[.func (.yield l) #[] #[]] 149 (0, 0)) ∧ V.heap[wr.heap.size]? = some (.cells #[nI i] 3 (0, 0)) ∧ V.heap[wr.heap.size + 1]? = some (.cells #[sL (some ⟨(c i).b, (c i).off, none⟩) m (c i).cap] 115 (0, 0)) ∧ ∀ D ∈ Ds, W.heap.size ≤ D ∧ D < wr.heap.size ∧ V.heap[D]? = some (.deferred (some [])))
   (fun x j V => x = .ret ∧ Jx (i * m + j) V ∧ ∀ D ∈ Ds, W.heap.size ≤ D ∧ D < wr.heap.size ∧ V.heap[D]? = some (.deferred (some [])))
   ?hI ?hIx ?hR ?h0
   (fun j a' V => ∃ B, W2.heap.size < B ∧ V.heap[B]? = some (.cells #[nI ((c i).way j).line, nI ((c i).way j).state, sL ((c i).way j).addr ((c i).way j).len ((c i).way j).cap] 39 (0, 0)) ∧ J (i * m + j) V ∧ V.heap[W.heap.size]? = some (.cells #[.func (.yield l) #[] #[]] 149 (0, 0)) ∧ V.heap[wr.heap.size]? = some (.cells #[nI i] 3 (0, 0)) ∧ V.heap[wr.heap.size + 1]? = some (.cells #[sL (some ⟨(c i).b, (c i).off, none⟩) m (c i).cap] 115 (0, 0)) ∧ (∀ D ∈ Ds, W.heap.size ≤ D ∧ D < wr.heap.size ∧ V.heap[D]? = some (.deferred (some []))) ∧
    a' = { tmps := #[.func (.yield l) #[] #[], .pointer (some ⟨Bc, 0, none⟩), .pointer (some ⟨W.heap.size, 0, none⟩), .pointer (some ⟨wr.heap.size, 0, none⟩), sL (some ⟨(c i).b, (c i).off, none⟩) m (c i).cap, nI j, .pointer (some ⟨B, 0, none⟩), u7, sL (some ⟨b0, off0, none⟩) s cap0, nI s, nI i, .bool true, nI i, .pointer (some ⟨b0, off0 + i, none⟩), sL (some ⟨(c i).b, (c i).off, none⟩) m (c i).cap, sL (some ⟨(c i).b, (c i).off, none⟩) m (c i).cap, .func (.func 147) #[] #[.pointer (some ⟨wr.heap.size + 1, 0, none⟩)], nI j, ((c i).way j).agg, R, H, O, I, S, G, U, L], defers := [] })
   ?hA ?hassign ?hbody ?hdone ?hstop
  case hI =>
   rintro j X Y f ⟨g, o, y, r, d⟩ p n
   exact ⟨zG3 T (by omega) _ X Y f g p n, zBo (β := Unit) _ _ _ _ () X Y f o p n, zBo (β := Unit) _ _ _ _ () X Y f y p n, zBo (β := Unit) _ _ _ _ () X Y f r p n,
    fun D hD => ⟨(d D hD).1, (d D hD).2.1, zJY (β := Unit) (by have := (d D hD).2.1; omega) () X Y f (d D hD).2.2 p n⟩⟩
  case hIx =>
   rintro x j X Y f ⟨g0, g, d⟩ p n;exact ⟨g0, zG3 eA (by omega) _ X Y f g p n, fun D hD => ⟨(d D hD).1, (d D hD).2.1, zJY (β := Unit) (by have := (d D hD).2.1; omega) () X Y f (d D hD).2.2 p n⟩⟩
  case hR =>
   rintro j V ⟨g, _, _, r, _⟩;exact ⟨by rw [cell_of_row V _ 0 _ _ (0, 0) r]; rfl, ((hR _ V g).2 i z).2⟩
  case h0 => exact ⟨jA, F, kA, f1, C⟩
  case hA =>
   rintro j a' ⟨⟩ X Y f ⟨B, g0, g6, g, o, y, r, d, rfl⟩ p n
   exact ⟨B, g0, zBo (β := Unit) _ _ _ _ () X Y f g6 p n, zG3 T (by omega) _ X Y f g p n, zBo (β := Unit) _ _ _ _ () X Y f o p n, zBo (β := Unit) _ _ _ _ () X Y f y p n, zBo (β := Unit) _ _ _ _ () X Y f r p n,
    fun D hD => ⟨(d D hD).1, (d D hD).2.1, zJY (β := Unit) (by have := (d D hD).2.1; omega) () X Y f (d D hD).2.2 p n⟩, rfl⟩
  case hassign =>
   rintro j V K A ⟨g, o, y, r, d⟩ hv hK;gi_wp2
   exact hK _ _ (Kept.alloc _ _ _) ⟨V.heap.size, by omega, zAy _ _, T.alloc _ g, zAJ _ o, zAJ _ y, zAJ _ r, fun D hD => ⟨(d D hD).1, (d D hD).2.1, zAJ _ (d D hD).2.2⟩, rfl⟩
  case hbody =>
   rintro j a' V A ⟨B, g0, g6, g, o, y, r, d, rfl⟩ hv _ _;have y0 : V.cell? ⟨W.heap.size, 0, none⟩ = some (.func (.yield l) #[] #[]) := by rw [cell_of_row V _ 0 _ _ (0, 0) o]; rfl
   have y1 : V.cell? ⟨wr.heap.size, 0, none⟩ = some (nI i) := by rw [cell_of_row V _ 0 _ _ (0, 0) y]; rfl
   have y2 : V.cell? ⟨B, 0, none⟩ = some (nI ((c i).way j).line) := by rw [cell_of_row V _ 0 _ _ (0, 0) g6]; rfl
   have y3 : V.cell? ⟨B, 1, none⟩ = some (nI ((c i).way j).state) := by rw [cell_of_row V _ 1 _ _ (0, 0) g6]; rfl
   have y4 : V.cell? ⟨B, 2, none⟩ = some (sL ((c i).way j).addr ((c i).way j).len ((c i).way j).cap) := by rw [cell_of_row V _ 2 _ _ (0, 0) g6]; rfl
   have d1 : (i * m + j) / m = i := by rw [Nat.mul_comm, Nat.mul_add_div hm0, Nat.div_eq_of_lt A, Nat.add_zero]
   have d2 : (i * m + j) % m = j := by rw [Nat.mul_comm, Nat.mul_add_mod, Nat.mod_eq_of_lt A]
   have d3 : i * m + j < s * m := by
    have : (i + 1) * m ≤ s * m := Nat.mul_le_mul_right _ z;rw [Nat.add_one_mul] at this;omega
   obtain ⟨fn, tmps, sA, ZA, hy, GA⟩ := hY (i * m + j) V d3 g;rw [d1, d2] at hy;clear d1 d2;have bw : W.heap.size < V.heap.size := (ltH o);have HG : Hid _ := aI o (aI y (aI r d));clear g o y r d g6 d3;gi_wp2
   refine ⟨rfl, GA.mono ?_⟩;rintro e W3 ⟨q, ⟨rfl, EA⟩ | ⟨rfl, BA⟩⟩
   ·gi_wp2
    obtain ⟨o, y, r, d⟩ := HG.out;refine ⟨q.mono (by omega), EA, (q.2 _ (Nat.le_refl _) bw).trans o, (q.2 _ (by omega) (by omega)).trans y, (q.2 _ (by omega) (by omega)).trans r, fun D hD => ⟨(d D hD).1, (d D hD).2.1, (q.2 _ (d D hD).1 (by have := (d D hD).2.1; omega)).trans (d D hD).2.2⟩⟩
   ·gi_wp2
    obtain ⟨o, y, r, d⟩ := HG.out;refine ⟨q.mono (by omega), rfl, BA, fun D hD => ⟨(d D hD).1, (d D hD).2.1, (q.2 _ (d D hD).1 (by have := (d D hD).2.1; omega)).trans (d D hD).2.2⟩⟩
  case hdone =>
   rintro V ⟨g, o, y, r, d⟩ hK;obtain ⟨n1, n2⟩ := oA.out V _ d (Nat.le_refl _) hK;gi_wp2
   refine ⟨⟨i + 1, W2.heap.size :: Ds, _, _, _, _, _, _, _, _, _, _, _, _, _, _, _, _, _, _, _, _, _, z, n1, n2, by rw [Nat.add_one_mul]; exact g, o, rfl⟩, ?_⟩;simp [intOf]
   omega
  case hstop =>
   rintro x j V A ⟨rfl, g, d⟩ hK;obtain ⟨n1, n2⟩ := oA.out V _ d (Nat.le_refl _) hK;have d3 : i * m + j < s * m := by
    have : (i + 1) * m ≤ s * m := Nat.mul_le_mul_right _ z;rw [Nat.add_one_mul] at this;omega
   gi_wp2
   refine zEm (fun V => Jx (i * m + j) V) (W2.heap.size :: Ds) V n1 (fun D hD => (n2 D hD).2) (fun D hD V' h hd => eA.putObj _ h (n2 D hD).1 hd rfl) g ?_;intro V' h';exact ⟨_, results_none rfl _ _ _, ⟨_, rfl⟩, .inr ⟨_, d3, h'⟩⟩
 ·have DA : i = s := by omega
  subst DA;gi_wp2
  refine zEm (fun V => J (i * m) V) Ds wr aA (fun D hD => (v D hD).2) (fun D hD V' h hd => T.putObj _ h (v D hD).1 hd rfl) hj ?_;intro V' h';exact ⟨_, results_none rfl _ _ _, ⟨_, rfl⟩, .inl h'⟩
end Go.Proofs.YtmdhblhdfcocjaaGreatDoor
