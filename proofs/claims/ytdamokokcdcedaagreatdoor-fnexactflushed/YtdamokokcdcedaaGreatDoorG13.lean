import Derived.Test.YtdamokokcdcedaaGreatDoorG00Box
import Derived.Test.YtdamokokcdcedaaGreatDoorG09
import Derived.Test.YtdamokokcdcedaaGreatDoorG12
namespace Go.Proofs.YtdamokokcdcedaaGreatDoor
set_option maxHeartbeats 2000000
open Go.ChangeShapes Go.WideShapes Go.ChangeAt Go.RowKit Go.Shelf
set_option linter.unusedVariables false
open Go.ChangeShapes Go.WideShapes Go.ChangeAt Go.RowKit
theorem in64_w {k : Int} (h0 : 0 ≤ k) (h1 : k ≤ 1152921504606846976) : In64 k := by constructor <;> omega
theorem cnt_len (xs : List (Int × Int × List Int)) : xs.length ≤ slcnt wayM xs := by
 induction xs with
 | nil => exact Nat.zero_le _
 | cons x xs ih =>
  simp only [slcnt, List.map_cons, List.sum_cons, List.length_cons] at ih ⊢;have : 1 ≤ wayM.cE x := by show 1 ≤ 1 + _; omega
  omega
theorem markWayS_nil (k : Int) (w : World) :
    Calls Tryz.prog 169 #[sL none 0 0, nI k] w fun e' w' => e' = .returned (nI k) ∧ w' = w := by
 go_enter Tryz.func169, Tryz.ntmps169;go_wp2;refine wp_loop_rounds 1 ?_;rw [rounds_succ];go_wp2;go_ret
 exact ⟨rfl, rfl⟩
theorem markWayS_rep (S : Foot) (v : Value) (k : Int) (xs : List (Int × Int × List Int)) (w : World) (h0 : 0 ≤ k) (h1 : k ≤ 288230376151711744) (hm : slcnt wayM xs ≤ 288230376151711744) (h : waysR.own w S [v] xs) :
    Calls Tryz.prog 169 #[v, nI k] w fun e' d => e' = .returned (nI (k + slcnt wayM xs)) ∧ waysR.own d S [v] (slmark wayM k xs) ∧ Chg S w d := by
 have pA := cnt_len xs;rcases slown_form h with ⟨rfl, rfl⟩ | ⟨G, B, rfl, hG⟩
 ·exact (markWayS_nil k w).mono fun e d ⟨e1, e2⟩ => ⟨by simpa [slcnt] using e1, by rw [e2]; exact h, by rw [e2]; exact Chg.refl _ _⟩
 go_enter Tryz.func169, Tryz.ntmps169;go_wp2;go_loopw [1, 5] (fun q i wr => ∃ j : Nat, j ≤ xs.length ∧ i = nI j ∧ q = nI (k + slcnt wayM (xs.take j)) ∧ waysR.own wr S [sL (some ⟨G, 0, none⟩) xs.length B] (pmark wayM k xs j) ∧ Chg S w wr)
  (fun _ i _ => xs.length - (intOf i).toNat)
 case atStart => exact ⟨0, Nat.zero_le _, rfl, by simp [slcnt], by rw [pmark_zero]; exact h, Chg.refl _ _⟩
 case round =>
  obtain ⟨j, hj, rfl, rfl, D, hs⟩ := hrel;by_cases aA : j < xs.length
  ·have fA : (j : Int) < (xs.length : Int) := by omega
   obtain ⟨x, s⟩ : ∃ x, xs[j]? = some x := ⟨_, List.getElem?_eq_getElem aA⟩;have HT : Hid (slcnt wayM (xs.take (j + 1)) = slcnt wayM (xs.take j) + (1 + (1 + slcnt intM x.2.2))) := slcnt_step (M := wayM) s;have hT : slcnt wayM (xs.take j) + (1 + (1 + slcnt intM x.2.2)) ≤ slcnt wayM xs := slcnt_get (M := wayM) s;have p : Hid _ := pmark_step (M := wayM) (k := k) s;obtain ⟨g, lA, l, Sj, T, c, hv, C, a, b, H, m, O, s2, Y, y, s5, f⟩ := slown_focus D (pmark_at s);simp only [Value.slice.injEq, Option.some.injEq, Addr.mk.injEq, and_true] at hv;obtain ⟨rfl, V⟩ := hv;obtain ⟨vd, rfl, -, -, o⟩ := way_own m;obtain ⟨E, F, rfl⟩ := slown_val o;have q0 : wr.cell? ⟨G, j * 3, none⟩ = some (nI x.1) := by rw [cell_of_row wr G _ l _ (0, 0) a]; exact b 0 (by decide)
   have q1 : wr.cell? ⟨G, j * 3 + 1, none⟩ = some (nI x.2.1) := by rw [cell_of_row wr G _ l _ (0, 0) a]; exact b 1 (by decide)
   have q2 : wr.cell? ⟨G, j * 3 + 2, none⟩ = some (sL E x.2.2.length F) := by rw [cell_of_row wr G _ l _ (0, 0) a]; exact b 2 (by decide)
   have f0 : wr.frozen? ⟨G, j * 3, none⟩ = false := frozen_of_row wr G _ _ _ a;have f1 : wr.frozen? ⟨G, j * 3 + 1, none⟩ = false := frozen_of_row wr G _ _ _ a;have bA : j * 3 + 2 < l.size := by
    have := b 2 (by decide);exact (Array.getElem?_eq_some_iff.1 (this.trans rfl)).1
   clear V H;generalize N : k + (slcnt wayM (xs.take j) : Int) = kk at p ⊢;have R : 0 ≤ kk ∧ kk ≤ 576460752303423488 := by omega
   have HC : Hid (∀ d, Chg Sj ((wr.setCell ⟨G, j * 3, none⟩ (nI kk)).setCell ⟨G, j * 3 + 1, none⟩ (nI (kk + 1))) d → intsR.own d Sj [sL E x.2.2.length F] (slmark intM (kk + 1 + 1) x.2.2) → waysR.own d S [sL (some ⟨G, 0, none⟩) xs.length B] (pmark wayM k xs (j + 1)) ∧ Chg S wr d) := by
    intro d U I;have y1 := heap_setCell_same wr G (j * 3) _ _ (nI kk) a;have y2 := heap_setCell_same _ G (j * 3 + 1) _ _ (nI (kk + 1)) y1;have Z : G < wr.heap.size := (ltH a)
    have c1 : Chg S wr ((wr.setCell ⟨G, j * 3, none⟩ (nI kk)).setCell ⟨G, j * 3 + 1, none⟩ (nI (kk + 1))) := ⟨rfl, rfl, rfl, by simp, fun i r hn => by
     have : i ≠ G := fun e => hn (by rw [e]; exact C)
     rw [heap_setCell_other _ ⟨G, j * 3 + 1, none⟩ i _ this, heap_setCell_other _ ⟨G, j * 3, none⟩ i _ this]⟩
    refine ⟨?_, c1.trans (U.mono O)⟩;rw [← p.out];refine f d _ [nI kk, nI (kk + 1), sL E x.2.2.length F] _ Sj S ((U.block G (by simpa using Z) y).trans y2) (by simp) ?_ ?_ ?_ (own_way (in64_w R.1 (by omega)) (in64_w (by omega) (by omega)) I) Y y C O s2
    ·intro i r;rw [show wayR.size = 3 from rfl] at r;rw [Array.getElem?_setIfInBounds_ne (by omega), Array.getElem?_setIfInBounds_ne (by omega)]
    ·intro i r;rw [show wayR.size = 3 from rfl] at r;rw [show j * wayR.size = j * 3 from rfl];have h3 : i = 0 ∨ i = 1 ∨ i = 2 := by omega
     rcases h3 with rfl | rfl | rfl
     ·rw [Array.getElem?_setIfInBounds_ne (by omega), Nat.add_zero, Array.getElem?_setIfInBounds_self_of_lt (by omega)];rfl
     ·rw [Array.getElem?_setIfInBounds_self_of_lt (by simp; omega)];rfl
     ·rw [Array.getElem?_setIfInBounds_ne (by omega), Array.getElem?_setIfInBounds_ne (by omega)];exact b 2 (by decide)
    ·intro i r J;have z : i ≠ G := fun e => s5 (by rw [← e]; exact r);rw [U.block i (by simpa using J) (fun s => Y i s r), heap_setCell_other _ ⟨G, j * 3 + 1, none⟩ i _ z, heap_setCell_other _ ⟨G, j * 3, none⟩ i _ z]
   have HO : Hid (intsR.own ((wr.setCell ⟨G, j * 3, none⟩ (nI kk)).setCell ⟨G, j * 3 + 1, none⟩ (nI (kk + 1))) Sj [sL E x.2.2.length F] x.2.2) := own_setC (own_setC o y) y;clear s D m f b a O s2 Y y s5 p h o bA;generalize slcnt wayM (xs.take j) = TT at HT hT N;go_wp2_with fail
   refine (markInt64S_rep Sj _ _ x.2.2 _ (by omega) (by omega) (by omega) HO.out).mono ?_;rintro e d ⟨rfl, n, gr⟩;obtain ⟨X, A⟩ := HC.out d gr n;have K := hs.trans A;clear n gr A HC HO q0 q1 q2 f0 f1;go_wp2;go_roundw
   case rel => exact ⟨j + 1, by omega, by go_num, by rw [HT.out]; congr 1; omega, X, K⟩
   case measure => simp [intOf]; omega
  ·have L : j = xs.length := by omega
   subst L;rw [List.take_length];rw [pmark_all] at D;go_wp2;go_ret
   exact ⟨rfl, D, hs⟩
theorem markWaySS_nil (k : Int) (w : World) :
    Calls Tryz.prog 105 #[sL none 0 0, nI k] w fun e' w' => e' = .returned (nI k) ∧ w' = w := by
 go_enter Tryz.func105, Tryz.ntmps105;go_wp2;refine wp_loop_rounds 1 ?_;rw [rounds_succ];go_wp2;go_ret
 exact ⟨rfl, rfl⟩
theorem markWaySS_rep (S : Foot) (v : Value) (k : Int) (xs : List (List (Int × Int × List Int))) (w : World) (h0 : 0 ≤ k) (h1 : k ≤ 144115188075855872) (hm : slcnt waysM xs ≤ 144115188075855872) (hln : xs.length ≤ 144115188075855872) (h : (slR 127 waysR).own w S [v] xs) :
    Calls Tryz.prog 105 #[v, nI k] w fun e' f => e' = .returned (nI (k + slcnt waysM xs)) ∧ (slR 127 waysR).own f S [v] (slmark waysM k xs) ∧ Chg S w f := by
 rcases slown_form h with ⟨rfl, rfl⟩ | ⟨G, s, rfl, hG⟩
 ·exact (markWaySS_nil k w).mono fun e f ⟨e1, e2⟩ => ⟨by simpa [slcnt] using e1, by rw [e2]; exact h, by rw [e2]; exact Chg.refl _ _⟩
 go_enter Tryz.func105, Tryz.ntmps105;go_wp2;go_loopw [1, 5] (fun q i wr => ∃ j : Nat, j ≤ xs.length ∧ i = nI j ∧ q = nI (k + slcnt waysM (xs.take j)) ∧ (slR 127 waysR).own wr S [sL (some ⟨G, 0, none⟩) xs.length s] (pmark waysM k xs j) ∧ Chg S w wr)
  (fun _ i _ => xs.length - (intOf i).toNat)
 case atStart => exact ⟨0, Nat.zero_le _, rfl, by simp [slcnt], by rw [pmark_zero]; exact h, Chg.refl _ _⟩
 case round =>
  obtain ⟨j, hj, rfl, rfl, y, X⟩ := hrel;by_cases O : j < xs.length
  ·have Z : (j : Int) < (xs.length : Int) := by omega
   obtain ⟨x, r⟩ : ∃ x, xs[j]? = some x := ⟨_, List.getElem?_eq_getElem O⟩;have HT : Hid (slcnt waysM (xs.take (j + 1)) = slcnt waysM (xs.take j) + slcnt wayM x) := slcnt_step (M := waysM) r;have hT : slcnt waysM (xs.take j) + slcnt wayM x ≤ slcnt waysM xs := slcnt_get (M := waysM) r;have o : Hid _ := pmark_step (M := waysM) (k := k) r;obtain ⟨g, cA, p, Sj, T, c, Y, I, a, l, n, d, E, s2, L, z, s5, b⟩ := slown_focus y (pmark_at r);obtain ⟨U, rfl⟩ : ∃ U, c = [U] := List.length_eq_one_iff.1 n;obtain ⟨F, R, rfl⟩ := slown_val d;simp only [Value.slice.injEq, Option.some.injEq, Addr.mk.injEq, and_true] at Y;obtain ⟨rfl, J⟩ := Y;clear J n;have q1 : wr.cell? ⟨G, j, none⟩ = some (sL F x.length R) := by
    rw [cell_of_row wr G j p _ (0, 0) a];have := l 0 Nat.zero_lt_one;rwa [show j * (waysR).size + 0 = j from Nat.mul_one j] at this
   have HO : Hid _ := d;have V : Hid (∀ f, Chg Sj wr f → (waysR).own f Sj [sL F x.length R] (slmark wayM (k + slcnt waysM (xs.take j)) x) → (slR 127 waysR).own f S [sL (some ⟨G, 0, none⟩) xs.length s] (pmark waysM k xs (j + 1))) := by
    intro f hc A;rw [← o.out];have N : G < wr.heap.size := (ltH a);exact b f p [sL F x.length R] _ Sj S (by rw [hc.block G N z]; exact a) rfl (fun _ _ => rfl) l (hc.keeps L.symm) A L z I E s2
   have B : Hid _ := E;clear r y d b l a s2 L z s5 E o h;generalize slcnt waysM (xs.take j) = T at HT hT V ⊢;go_wp2_with (go_at_call 169; refine (markWayS_rep Sj _ _ x _ (by omega) (by omega) (by omega) HO.out).mono ?_; rintro e f ⟨rfl, m, H⟩)
   have K := V.out f H m;have C := X.trans (H.mono B.out);clear m H;go_roundw
   case rel => exact ⟨j + 1, by omega, by go_num, by rw [HT.out]; go_num, K, C⟩
   case measure => simp [intOf]; omega
  ·have D : j = xs.length := by omega
   subst D;rw [List.take_length];rw [pmark_all] at y;go_wp2;go_ret
   exact ⟨rfl, y, X⟩
section
variable {α : Type}
end
theorem bd_way : Bd wayM 3 := bd_prod bd_int (bd_prod bd_int (bd_sl bd_int))
variable {α : Type}
theorem chg_set {w : World} {g i : Nat} {v : Value} : Chg (fun b => b = g) w (w.setCell ⟨g, i, none⟩ v) := ⟨rfl, rfl, rfl, by simp, fun j _ hj => heap_setCell_other w ⟨g, i, none⟩ j v hj⟩
variable {α : Type}
def At (w : World) (t : TypeId) (G off : Nat) (cs : List Value) : Prop := ∃ cur, w.heap[G]? = some (.cells cur t (0, 0)) ∧ off + cs.length ≤ cur.size ∧ ∀ j, j < cs.length → cur[off + j]? = cs[j]?
theorem at_lt {w : World} {t : TypeId} {G off : Nat} {cs : List Value} (h : At w t G off cs) : G < w.heap.size := by
 obtain ⟨b, a, _⟩ := h;exact (ltH a)
theorem at_cell {w : World} {t : TypeId} {G off : Nat} {cs : List Value} (h : At w t G off cs) (j : Nat) {v : Value} (hv : cs[j]? = some v) : w.cell? ⟨G, off + j, none⟩ = some v := by
 obtain ⟨a, b, _, c⟩ := h;rw [cell_of_row w G _ a t (0, 0) b, c j (List.getElem?_eq_some_iff.1 hv).1];exact hv
theorem at_cell0 {w : World} {t : TypeId} {G : Nat} {off : Nat} {cs : List Value} {v : Value} (h : At w t G off (v :: cs)) : w.cell? ⟨G, off, none⟩ = some v := at_cell h 0 rfl
theorem at_froz {w : World} {t : TypeId} {G off : Nat} {cs : List Value} (h : At w t G off cs) (j : Nat) : w.frozen? ⟨G, off + j, none⟩ = false := by
 obtain ⟨b, a, _⟩ := h;exact frozen_of_row w G _ _ t a
theorem at_froz0 {w : World} {t : TypeId} {G off : Nat} {cs : List Value} (h : At w t G off cs) : w.frozen? ⟨G, off, none⟩ = false := at_froz h 0
theorem at_keep {w w' : World} {t : TypeId} {G off : Nat} {cs : List Value} (h : At w t G off cs) (hk : w'.heap[G]? = w.heap[G]?) : At w' t G off cs := by
 obtain ⟨a, c, b⟩ := h;exact ⟨a, hk.trans c, b⟩
theorem at_chg {w w' : World} {t : TypeId} {G off : Nat} {cs : List Value} {S : Foot} (h : At w t G off cs) (hc : Chg S w w') (hn : ¬ S G) : At w' t G off cs := at_keep h (hc.block G (at_lt h) hn)
theorem at_set {w : World} {t : TypeId} {G off : Nat} {cs cs' : List Value} (h : At w t G off cs) (j : Nat) (v : Value) (e : cs' = cs.set j v) : At (w.setCell ⟨G, off + j, none⟩ v) t G off cs' := by
 obtain ⟨a, f, d, c⟩ := h;subst e;refine ⟨_, heap_setCell_same w G (off + j) a t v f, by simpa using d, fun i hi => ?_⟩;rw [List.length_set] at hi;by_cases b : i = j
 ·subst b;rw [Array.getElem?_setIfInBounds_self_of_lt (by omega), List.getElem?_set_self hi]
 ·rw [Array.getElem?_setIfInBounds_ne (by omega), List.getElem?_set_ne (by omega)];exact c i hi
def In (G off n : Nat) (w w' : World) : Prop := ∀ cur t, w.heap[G]? = some (.cells cur t (0, 0)) → ∃ cur' : Array Value, w'.heap[G]? = some (.cells cur' t (0, 0)) ∧ cur'.size = cur.size ∧ ∀ i, i < off ∨ off + n ≤ i → cur'[i]? = cur[i]?
theorem In.refl (G off n : Nat) (w : World) : In G off n w w := fun cur t h => ⟨cur, h, rfl, fun _ _ => rfl⟩
theorem In.trans {G off n : Nat} {a b c : World} (h : In G off n a b) (k : In G off n b c) : In G off n a c := fun cur t hc => by
 obtain ⟨p, o, d, m⟩ := h cur t hc;obtain ⟨f, g, j, l⟩ := k p t o;exact ⟨f, g, j.trans d, fun i hi => (l i hi).trans (m i hi)⟩
theorem In.same {G off n : Nat} {w w' : World} (h : w'.heap[G]? = w.heap[G]?) : In G off n w w' := fun cur t hc => ⟨cur, h.trans hc, rfl, fun _ _ => rfl⟩
theorem In.set {G off n j : Nat} {w : World} {v : Value} (hj : j < n) : In G off n w (w.setCell ⟨G, off + j, none⟩ v) := fun cur t hc =>
 ⟨_, heap_setCell_same w G (off + j) cur t v hc, by simp, fun i hi => Array.getElem?_setIfInBounds_ne (by omega)⟩
theorem In.mono {G off n off' n' : Nat} {w w' : World} (h : In G off n w w') (h1 : off' ≤ off) (h2 : off + n ≤ off' + n') : In G off' n' w w' := fun cur t hc => by
 obtain ⟨c, f, b, d⟩ := h cur t hc;exact ⟨c, f, b, fun i hi => d i (by omega)⟩
structure Obj1 (R : Rep α) (t : TypeId) (w : World) (G off : Nat) (S : Foot) (cs : List Value) (x : α) : Prop where
 lies : At w t G off cs
 own : R.own w S cs x
 out : ¬ S G
structure Turn (G off n : Nat) (S : Foot) (w w' : World) : Prop where
 chg : Chg (fun k => S k ∨ k = G) w w'
 row : In G off n w w'
theorem Turn.refl (G off n : Nat) (S : Foot) (w : World) : Turn G off n S w w := ⟨Chg.refl _ _, In.refl _ _ _ _⟩
theorem Turn.mono {G off n : Nat} {S T : Foot} {w w' : World} (h : Turn G off n S w w') (hs : Sub S T) : Turn G off n T w w' := ⟨h.chg.mono (fun k hk => hk.imp (hs k) id), h.row⟩
theorem Turn.trans {G off n : Nat} {S S' : Foot} {a b c : World} (h : Turn G off n S a b) (k : Turn G off n S' b c) (hS : ∀ k, S' k → S k ∨ (a.heap.size ≤ k)) : Turn G off n S a c := by
 refine ⟨⟨k.chg.os.trans h.chg.os, k.chg.tape.trans h.chg.tape, k.chg.output.trans h.chg.output, Nat.le_trans h.chg.size k.chg.size, fun j hj hn => ?_⟩, h.row.trans k.row⟩;have hb := h.chg.size;refine (k.chg.block j (by omega) (fun d => ?_)).trans (h.chg.block j hj hn);rcases d with d | d
 ·rcases hS j d with f | f
  ·exact hn (.inl f)
  ·omega
 ·exact hn (.inr d)
theorem turn_set {G off n j : Nat} {S : Foot} {w : World} {v : Value} (hj : j < n) : Turn G off n S w (w.setCell ⟨G, off + j, none⟩ v) :=
 ⟨⟨rfl, rfl, rfl, by simp, fun k _ hn => heap_setCell_other w ⟨G, off + j, none⟩ k v (fun e => hn (.inr e))⟩, In.set hj⟩
theorem turn_chg {G off n : Nat} {S : Foot} {w w' : World} (h : Chg S w w') (hg : ¬ S G) (hl : G < w.heap.size) : Turn G off n S w w' := ⟨h.mono (fun _ hk => .inl hk), In.same (h.block G hl hg)⟩
theorem elem_focus {e : TypeId} {R : Rep α} {w : World} {S : Foot} {v : Value} {xs : List α} {j : Nat} {x : α} (h : (slR e R).own w S [v] xs) (hx : xs[j]? = some x) :
    ∃ g f Sj T c, v = sL (some ⟨g, 0, none⟩) xs.length f ∧ S g ∧ Obj1 R e w g (j * R.size) Sj c x ∧ Sub Sj S ∧ Sub T S ∧ Dis Sj T ∧ ¬ T g ∧
     ∀ k q o U V, Obj1 R e k g (j * R.size) U q o → In g (j * R.size) R.size w k → Keeps T w k → Dis U T → V g → Sub U V → Sub T V → (slR e R).own k V [v] (xs.set j o) := by
 obtain ⟨g, f, b, Sj, T, c, O, y, G, E, H, L, Z, s2, X, n1, Y, m⟩ := slown_focus h hx;have r : j * R.size + R.size ≤ b.size ∨ R.size = 0 := by
  by_cases z : R.size = 0
  ·exact .inr z
  ·left
   have n := E (R.size - 1) (by omega);have h2 : (R.size - 1) < c.length := by omega
   rw [List.getElem?_eq_getElem h2] at n;have := (ltH n);omega
 have M : j * R.size + R.size ≤ b.size := by
  rcases r with n | z
  ·exact n
  ·rw [z]; simp
 refine ⟨g, f, Sj, T, c, O, y, ⟨⟨b, G, by omega, fun i hi => E i (by omega)⟩, L, n1⟩, Z, s2, X, Y, ?_⟩;intro k q o U V p s N A hV J hT;obtain ⟨l, F, I, e3⟩ := s b e G;obtain ⟨d, C, f2, K⟩ := p.lies;have B : d = l := by rw [F] at C; simp at C; exact C.symm
 subst B;have D := R.rd_len (R.own_rd p.own);exact m k d q o U V F I (fun i hi => e3 i (by omega)) (fun i hi => K i (by omega)) N p.own A p.out hV J hT
theorem elem_set {e : TypeId} {R : Rep α} {w : World} {S : Foot} {g n cap : Nat} {xs : List α} {j i : Nat} {x x' : α} {v : Value} (h : (slR e R).own w S [sL (some ⟨g, 0, none⟩) n cap] xs) (hx : xs[j]? = some x) (hi : i < R.size) (hc : ∀ c, R.rd w c x → (∀ W T, R.own W T c x → R.own W T (c.set i v) x')) :
    (slR e R).own (w.setCell ⟨g, j * R.size + i, none⟩ v) S [sL (some ⟨g, 0, none⟩) n cap] (xs.set j x') := by
 obtain ⟨g1, m, Sj, T, o, l, f, b, p, q, s, y, a⟩ := elem_focus h hx;simp only [Value.slice.injEq, Option.some.injEq, Addr.mk.injEq, and_true] at l;obtain ⟨rfl, -, rfl⟩ := l;have d : ∀ F : Foot, ¬ F g → Keeps F w (w.setCell ⟨g, j * R.size + i, none⟩ v) := fun F hF k d _ => heap_setCell_other w ⟨g, j * R.size + i, none⟩ k v (fun e => hF (by have r : k = g := e; rw [← r]; exact d));exact a _ (o.set i v) x' Sj S ⟨at_set b.lies i v rfl, hc o (R.own_rd b.own) _ _ (R.own_keep b.own (d Sj b.out)), b.out⟩ (In.set hi) (d T y) s f p q
theorem op_own4 {w : World} {S : Foot} {c : List Value} {u : OpD} (h : opR.own w S c u) : c = [nI u.1, nI u.2.1, nI u.2.2.1, nI u.2.2.2] ∧ In4 u := op_rd (opR.own_rd h)
theorem op_set0 {w : World} {c : List Value} {x : OpD} {y : Int} (hy : In64 y) (hr : opR.rd w c x) : ∀ W T, opR.own W T c x → opR.own W T (c.set 0 (nI y)) (y, x.2) := by
 intro W T a;obtain ⟨rfl, h⟩ := op_own4 a;exact own_op (u := (y, x.2)) ⟨hy, h.2.1, h.2.2.1, h.2.2.2⟩
theorem op_set1 {w : World} {c : List Value} {x : OpD} {y : Int} (hy : In64 y) (hr : opR.rd w c x) : ∀ W T, opR.own W T c x → opR.own W T (c.set 1 (nI y)) (x.1, y, x.2.2) := by
 intro W T a;obtain ⟨rfl, h⟩ := op_own4 a;exact own_op (u := (x.1, y, x.2.2)) ⟨h.1, hy, h.2.2.1, h.2.2.2⟩
theorem op_set2 {w : World} {c : List Value} {x : OpD} {y : Int} (hy : In64 y) (hr : opR.rd w c x) : ∀ W T, opR.own W T c x → opR.own W T (c.set 2 (nI y)) (x.1, x.2.1, y, x.2.2.2) := by
 intro W T a;obtain ⟨rfl, h⟩ := op_own4 a;exact own_op (u := (x.1, x.2.1, y, x.2.2.2)) ⟨h.1, h.2.1, hy, h.2.2.2⟩
theorem op_set3 {w : World} {c : List Value} {x : OpD} {y : Int} (hy : In64 y) (hr : opR.rd w c x) : ∀ W T, opR.own W T c x → opR.own W T (c.set 3 (nI y)) (x.1, x.2.1, x.2.2.1, y) := by
 intro W T a;obtain ⟨rfl, h⟩ := op_own4 a;exact own_op (u := (x.1, x.2.1, x.2.2.1, y)) ⟨h.1, h.2.1, h.2.2.1, hy⟩
theorem in64_k {k : Int} (h0 : 0 ≤ k) (h1 : k ≤ 1152921504606846976) : In64 k := by constructor <;> omega
theorem get_set {α : Type} {xs : List α} {j : Nat} {x a : α} (h : xs[j]? = some x) : (xs.set j a)[j]? = some a := by
 rw [List.getElem?_set_self (List.getElem?_eq_some_iff.1 h).1]
theorem markOpS_nil (k : Int) (w : World) :
    Calls Tryz.prog 106 #[sL none 0 0, nI k] w fun e' w' => e' = .returned (nI k) ∧ w' = w := by
 go_enter Tryz.func106, Tryz.ntmps106;go_wp2;refine wp_loop_rounds 1 ?_;rw [rounds_succ];go_wp2;go_ret
 exact ⟨rfl, rfl⟩
theorem markOp_round {S : Foot} {G n cap j : Nat} {w : World} {xs : List OpD} {x : OpD} {kk : Int} (h0 : 0 ≤ kk) (h1 : kk ≤ 1152921504606846970) (h : opsR.own w S [sL (some ⟨G, 0, none⟩) n cap] xs) (hx : xs[j]? = some x) :
    opsR.own ((((w.setCell ⟨G, j * 4, none⟩ (nI kk)).setCell ⟨G, j * 4 + 1, none⟩ (nI (kk + 1))).setCell ⟨G, j * 4 + 2, none⟩ (nI (kk + 1 + 1))).setCell ⟨G, j * 4 + 3, none⟩ (nI (kk + 1 + 1 + 1))) S [sL (some ⟨G, 0, none⟩) n cap] (xs.set j (kk, kk + 1, kk + 1 + 1, kk + 1 + 1 + 1)) ∧
    Chg (fun k => k = G) w ((((w.setCell ⟨G, j * 4, none⟩ (nI kk)).setCell ⟨G, j * 4 + 1, none⟩ (nI (kk + 1))).setCell ⟨G, j * 4 + 2, none⟩ (nI (kk + 1 + 1))).setCell ⟨G, j * 4 + 3, none⟩ (nI (kk + 1 + 1 + 1))) := by
 have f := elem_set (i := 0) (v := nI kk) h hx (by decide) (fun c hr => op_set0 (in64_k (by omega) (by omega)) hr);have d := elem_set (i := 1) (v := nI (kk + 1)) f (get_set hx) (by decide) (fun c hr => op_set1 (in64_k (by omega) (by omega)) hr);rw [List.set_set] at d;have b := elem_set (i := 2) (v := nI (kk + 1 + 1)) d (get_set hx) (by decide) (fun c hr => op_set2 (in64_k (by omega) (by omega)) hr);rw [List.set_set] at b;have a := elem_set (i := 3) (v := nI (kk + 1 + 1 + 1)) b (get_set hx) (by decide) (fun c hr => op_set3 (in64_k (by omega) (by omega)) hr);rw [List.set_set] at a;exact ⟨a, ((chg_set.trans chg_set).trans chg_set).trans chg_set⟩
theorem markOpS_rep (S : Foot) (v : Value) (k : Int) (xs : List OpD) (w : World) (h0 : 0 ≤ k) (h1 : k ≤ 288230376151711744) (hm : slcnt opM xs ≤ 288230376151711744) (h : opsR.own w S [v] xs) :
    Calls Tryz.prog 106 #[v, nI k] w fun e' w' => e' = .returned (nI (k + slcnt opM xs)) ∧ opsR.own w' S [v] (slmark opM k xs) ∧ Chg S w w' := by
 rcases slown_form h with ⟨rfl, rfl⟩ | ⟨G, r, rfl, N⟩
 ·exact (markOpS_nil k w).mono fun e w' ⟨e1, e2⟩ => ⟨by simpa [slcnt] using e1, by rw [e2]; exact h, by rw [e2]; exact Chg.refl _ _⟩
 have T := cnt_ops xs;have H : Hid _ := h;clear h;go_enter Tryz.func106, Tryz.ntmps106;go_wp2;go_loopw [1, 5] (fun q i wr => ∃ j : Nat, j ≤ xs.length ∧ i = nI j ∧ q = nI (k + slcnt opM (xs.take j)) ∧ opsR.own wr S [sL (some ⟨G, 0, none⟩) xs.length r] (pmark opM k xs j) ∧ Chg S w wr) (fun _ i _ => xs.length - (intOf i).toNat)
 case atStart => exact ⟨0, Nat.zero_le _, rfl, by simp [slcnt], by rw [pmark_zero]; exact H.out, Chg.refl _ _⟩
 case round =>
  obtain ⟨j, hj, rfl, rfl, d, l⟩ := hrel;by_cases s : j < xs.length
  ·have A : (j : Int) < (xs.length : Int) := by omega
   obtain ⟨x, f⟩ : ∃ x, xs[j]? = some x := ⟨_, List.getElem?_eq_getElem s⟩;have C : Hid (slcnt opM (xs.take (j + 1)) = slcnt opM (xs.take j) + 4) := slcnt_step (M := opM) f;have K : slcnt opM (xs.take j) + 4 ≤ slcnt opM xs := slcnt_get (M := opM) f;have c := pmark_step (M := opM) (k := k) f;obtain ⟨G1, B, Sj, Tj, cj, y, -, a, -⟩ := elem_focus d (pmark_at f);simp only [Value.slice.injEq, Option.some.injEq, Addr.mk.injEq, and_true] at y;obtain ⟨rfl, -, rfl⟩ := y;obtain ⟨rfl, -⟩ := op_own4 a.own;have L := at_cell0 a.lies;have F := at_cell a.lies 1 rfl;have O := at_cell a.lies 2 rfl;have E := at_cell a.lies 3 rfl;have I := at_froz0 a.lies;have D := at_froz a.lies 1;have J := at_froz a.lies 2;have R := at_froz a.lies 3;rw [show j * opR.size = j * 4 from rfl] at L F O E I D J R;generalize n : k + (slcnt opM (xs.take j) : Int) = kk at c ⊢;have p : 0 ≤ kk ∧ kk ≤ 576460752303423488 := by omega
   obtain ⟨o, z⟩ := markOp_round (kk := kk) p.1 (by omega) d (pmark_at f);rw [show (kk, kk + 1, kk + 1 + 1, kk + 1 + 1 + 1) = opM.mE kk x from rfl, c] at o;have g : Hid _ := aI o (l.trans (z.mono (fun b hb => by rw [hb]; exact N)));clear o z a d l c f;generalize slcnt opM (xs.take j) = TT at C K n;go_wp2;go_roundw
   case rel => exact ⟨j + 1, by omega, by go_num, by rw [C.out]; congr 1; omega, g.out.1, g.out.2⟩
   case measure => simp [intOf]; omega
  ·have m : j = xs.length := by omega
   subst m;rw [List.take_length];rw [pmark_all] at d;have g : Hid _ := aI d l;clear d l;go_wp2;go_ret
   exact ⟨rfl, g.out.1, g.out.2⟩
theorem szOps_u : SzC 123 opsR opsM cell1 := by
 rintro cs x left w ⟨a, b, rfl, f, g, l3⟩ c d;exact (szOpS_rep a x b left w c d (Nat.le_trans f g)).mono fun e w' ⟨q, r⟩ => ⟨q, be_eq r⟩
theorem toOps_u : ToC 141 opsR opsM cell1 := by
 rintro cs x w ⟨a, b, rfl, l1, l2, d⟩ f;refine (toOpS_rep a x b w d f).mono ?_;rintro e w' ⟨v, rfl, c⟩;exact ⟨[v], rfl, c⟩
theorem eqOps_u : EqC 165 opsR opsM cell1 := by
 rintro cs ds x w ⟨a, c, rfl, l1, l2, g⟩ ⟨b, d, rfl, k1, k2, f⟩ hm;exact eqOpS_rep a b x c d w g f (by have : lot = 4398046511104 := rfl; omega)
theorem mkOps_u : MkC 106 opsR opsM cell1 := by
 intro S cs x k w h a hm hb;obtain ⟨v, rfl⟩ := own_cell h;have e : lot = 4398046511104 := rfl;have e2 : opsM.cV x = slcnt opM x := rfl;exact markOpS_rep S v k x w a (by omega) (by omega) h
theorem szWay_u : SzC 124 wayR wayM aggV := by
 intro cs x left w h c d;obtain ⟨a, b, rfl, i1, i2, f, g, l3⟩ := way_rd h;exact szWay_rep x.1 x.2.1 x.2.2 a b left w c d (Nat.le_trans f g)
theorem toWay_u : ToC 142 wayR wayM aggV := by
 intro cs x w h hm;obtain ⟨a, b, rfl, d, g, l1, l2, f⟩ := way_rd h;refine (toWay_rep x.1 x.2.1 x.2.2 a b w d g f (by have : wayM.bk x = 0 + (0 + intsM.bk x.2.2) := rfl; omega)).mono ?_;rintro e w' ⟨av, cv, rfl, c⟩;exact ⟨_, rfl, c⟩
theorem eqWay_u : EqC 166 wayR wayM aggV := by
 intro cs ds x w h k hm;obtain ⟨a, c, rfl, i1, i2, l1, l2, d⟩ := way_rd h;obtain ⟨b, g, rfl, _, _, k1, k2, f⟩ := way_rd k;exact eqWay_rep x.1 x.2.1 x.2.2 a b c g w d f (by have : wayM.bk x = 0 + (0 + intsM.bk x.2.2) := rfl; have : lot = 4398046511104 := rfl; omega)
theorem szCache_u : SzC 122 cacheR cacheM aggV := by
 intro cs x left w h d j;obtain ⟨a, c, b, f, rfl, l, m, k, g, i, r2⟩ := cache_rd h;exact szCache_rep a b x c f left w i d j (Nat.le_trans l m) (Nat.le_trans k g)
theorem toCache_u : ToC 140 cacheR cacheM aggV := by
 intro cs x w h g;obtain ⟨a, c, b, j, rfl, l1, l2, m1, m2, d, f⟩ := cache_rd h;refine (toCache_rep a b x c j w d f g).mono ?_;rintro e w' ⟨av, cv, bv, dv, rfl, i⟩;exact ⟨_, rfl, i⟩
theorem eqCache_u : EqC 164 cacheR cacheM aggV := by
 intro cs ds x w h k hm;obtain ⟨a, f, b, n, rfl, l1, l2, m1, m2, i, m⟩ := cache_rd h;obtain ⟨j, c, o, d, rfl, _, _, _, _, g, l⟩ := cache_rd k;exact eqCache_rep x a b j o f n c d w i m g l (by have : lot = 4398046511104 := rfl; omega)
variable {α : Type}
def setCs (w : World) (g : Nat) : Nat → List Value → World
 | _, [] => w
 | o, v :: vs => setCs (w.setCell ⟨g, o, none⟩ v) g (o + 1) vs
def putA (cs : Array Value) : Nat → List Value → Array Value
 | _, [] => cs
 | o, v :: vs => putA (cs.setIfInBounds o v) (o + 1) vs
theorem row_setCs {g : Nat} {t : TypeId} : ∀ (vs : List Value) (o : Nat) {w : World} {cs : Array Value}, w.heap[g]? = some (.cells cs t (0, 0)) → (setCs w g o vs).heap[g]? = some (.cells (putA cs o vs) t (0, 0))
 | [], _, _, _, h => h
 | v :: vs, o, w, cs, h => row_setCs vs (o + 1) (heap_setCell_same w g o cs t v h)
theorem chg_setCs {g : Nat} : ∀ (vs : List Value) (o : Nat) (w : World), Chg (fun k => k = g) w (setCs w g o vs)
 | [], _, w => Chg.refl _ w
 | v :: vs, o, w => (show Chg (fun k => k = g) w (w.setCell ⟨g, o, none⟩ v) from ⟨rfl, rfl, rfl, by simp, fun k hk hn => heap_setCell_other w ⟨g, o, none⟩ k v hn⟩).trans (chg_setCs vs (o + 1) _)
theorem below_setCs {a w : World} {B g o : Nat} {vs : List Value} (h : Below B a w) (hB : B ≤ w.heap.size) (hg : B ≤ g) : Below B a (setCs w g o vs) :=
 (chg_setCs vs o w).below h (fun k hk => by have : k = g := hk; omega) hB
theorem below_setCs0 {a w : World} {g o : Nat} {vs : List Value} (h : Bl a w) (hg : a.heap.size ≤ g) : Bl a (setCs w g o vs) := below_setCs h h.size hg
theorem own_setCs {R : Rep α} {w : World} {S : Foot} {cs : List Value} {x : α} {g o : Nat} {vs : List Value} (h : R.own w S cs x) (hg : ¬ S g) : R.own (setCs w g o vs) S cs x :=
 own_chg h (chg_setCs vs o w) fun k hk e => by have a : k = g := e; subst a; exact hg hk
end Go.Proofs.YtdamokokcdcedaaGreatDoor
