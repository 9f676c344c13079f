import Derived.Test.YtcocbafhcpdheaaGreatDoorS00Box
import Derived.Test.YtcocbafhcpdheaaGreatDoorS08
import Derived.Test.YtcocbafhcpdheaaGreatDoorS11
namespace Go.Proofs.YtcocbafhcpdheaaGreatDoor
set_option maxHeartbeats 2000000
open Go.ChangeShapes Go.WideShapes Go.ChangeAt Go.RowKit Go.Shelf
set_option linter.unusedVariables false
open Go.ChangeShapes Go.WideShapes Go.ChangeAt Go.RowKit
theorem in64_w {k : Int} (h0 : 0 ≤ k) (h1 : k ≤ 1152921504606846976) : In64 k := by constructor <;> omega
theorem cnt_len (xs : List (Int × Int × List Int)) : xs.length ≤ slcnt wayM xs := by
 induction xs with
 | nil => exact Nat.zero_le _
 | cons x xs ih =>
  simp only [slcnt, List.map_cons, List.sum_cons, List.length_cons] at ih ⊢;have : 1 ≤ wayM.cE x := by show 1 ≤ 1 + _; omega
  omega
theorem markWayS_nil (k : Int) (w : World) :
    Calls Tryz.prog 139 #[.slice none 0 0, .int .i64 k] w fun e' w' => e' = .returned (.int .i64 k) ∧ w' = w := by
 go_enter Tryz.func139, Tryz.ntmps139;go_wp2;refine wp_loop_rounds 1 ?_;rw [rounds_succ];go_wp2;go_ret
 exact ⟨rfl, rfl⟩
theorem markWayS_rep (S : Foot) (v : Value) (k : Int) (xs : List (Int × Int × List Int)) (w : World) (h0 : 0 ≤ k) (h1 : k ≤ 288230376151711744) (hm : slcnt wayM xs ≤ 288230376151711744) (h : waysR.own w S [v] xs) :
    Calls Tryz.prog 139 #[v, .int .i64 k] w fun e' d => e' = .returned (.int .i64 (k + slcnt wayM xs)) ∧ waysR.own d S [v] (slmark wayM k xs) ∧ Chg S w d := by
 have BA := cnt_len xs;rcases slown_form h with ⟨rfl, rfl⟩ | ⟨G, y, rfl, hG⟩
 ·exact (markWayS_nil k w).mono fun e d ⟨e1, e2⟩ => ⟨by simpa [slcnt] using e1, by rw [e2]; exact h, by rw [e2]; exact Chg.refl _ _⟩
 go_enter Tryz.func139, Tryz.ntmps139;go_wp2;go_loopw [1, 5] (fun q i wr => ∃ j : Nat, j ≤ xs.length ∧ i = .int .i64 j ∧ q = .int .i64 (k + slcnt wayM (xs.take j)) ∧ waysR.own wr S [.slice (some ⟨G, 0, none⟩) xs.length y] (pmark wayM k xs j) ∧ Chg S w wr)
  (fun _ i _ => xs.length - (intOf i).toNat)
 case atStart => exact ⟨0, Nat.zero_le _, rfl, by simp [slcnt], by rw [pmark_zero]; exact h, Chg.refl _ _⟩
 case round =>
  obtain ⟨j, hj, rfl, rfl, F, hs⟩ := hrel;by_cases J : j < xs.length
  ·have kA : (j : Int) < (xs.length : Int) := by omega
   obtain ⟨x, o⟩ : ∃ x, xs[j]? = some x := ⟨_, List.getElem?_eq_getElem J⟩;have HT : Hid (slcnt wayM (xs.take (j + 1)) = slcnt wayM (xs.take j) + (1 + (1 + slcnt intM x.2.2))) := slcnt_step (M := wayM) o;have hT : slcnt wayM (xs.take j) + (1 + (1 + slcnt intM x.2.2)) ≤ slcnt wayM xs := slcnt_get (M := wayM) o;have p : Hid _ := pmark_step (M := wayM) (k := k) o;obtain ⟨g, mA, l, Sj, T, c, hv, C, a, b, aA, n, V, s2, R, B, s5, f⟩ := slown_focus F (pmark_at o);simp only [Value.slice.injEq, Option.some.injEq, Addr.mk.injEq, and_true] at hv;obtain ⟨rfl, U⟩ := hv;obtain ⟨vd, rfl, -, -, r⟩ := way_own n;obtain ⟨E, D, rfl⟩ := slown_val r;have q0 : wr.cell? ⟨G, j * 3, none⟩ = some (.int .i64 x.1) := by rw [cell_of_row wr G _ l _ (0, 0) a]; exact b 0 (by decide)
   have q1 : wr.cell? ⟨G, j * 3 + 1, none⟩ = some (.int .i64 x.2.1) := by rw [cell_of_row wr G _ l _ (0, 0) a]; exact b 1 (by decide)
   have q2 : wr.cell? ⟨G, j * 3 + 2, none⟩ = some (.slice E x.2.2.length D) := by rw [cell_of_row wr G _ l _ (0, 0) a]; exact b 2 (by decide)
   have f0 : wr.frozen? ⟨G, j * 3, none⟩ = false := frozen_of_row wr G _ _ _ a;have f1 : wr.frozen? ⟨G, j * 3 + 1, none⟩ = false := frozen_of_row wr G _ _ _ a;have X : j * 3 + 2 < l.size := by
    have := b 2 (by decide);exact (Array.getElem?_eq_some_iff.1 (this.trans rfl)).1
   clear U aA;generalize K : k + (slcnt wayM (xs.take j) : Int) = kk at p ⊢;have bA : 0 ≤ kk ∧ kk ≤ 576460752303423488 := by omega
   have HC : Hid (∀ d, Chg Sj ((wr.setCell ⟨G, j * 3, none⟩ (.int .i64 kk)).setCell ⟨G, j * 3 + 1, none⟩ (.int .i64 (kk + 1))) d → intsR.own d Sj [.slice E x.2.2.length D] (slmark intM (kk + 1 + 1) x.2.2) → waysR.own d S [.slice (some ⟨G, 0, none⟩) xs.length y] (pmark wayM k xs (j + 1)) ∧ Chg S wr d) := by
    intro d Y L;have y1 := heap_setCell_same wr G (j * 3) _ _ (.int .i64 kk) a;have y2 := heap_setCell_same _ G (j * 3 + 1) _ _ (.int .i64 (kk + 1)) y1;have H : G < wr.heap.size := (ltH a)
    have c1 : Chg S wr ((wr.setCell ⟨G, j * 3, none⟩ (.int .i64 kk)).setCell ⟨G, j * 3 + 1, none⟩ (.int .i64 (kk + 1))) := ⟨rfl, rfl, rfl, by simp, fun i s hn => by
     have : i ≠ G := fun e => hn (by rw [e]; exact C)
     rw [heap_setCell_other _ ⟨G, j * 3 + 1, none⟩ i _ this, heap_setCell_other _ ⟨G, j * 3, none⟩ i _ this]⟩
    refine ⟨?_, c1.trans (Y.mono V)⟩;rw [← p.out];refine f d _ [.int .i64 kk, .int .i64 (kk + 1), .slice E x.2.2.length D] _ Sj S ((Y.block G (by simpa using H) B).trans y2) (by simp) ?_ ?_ ?_ (own_way (in64_w bA.1 (by omega)) (in64_w (by omega) (by omega)) L) R B C V s2
    ·intro i s;rw [show wayR.size = 3 from rfl] at s;rw [Array.getElem?_setIfInBounds_ne (by omega), Array.getElem?_setIfInBounds_ne (by omega)]
    ·intro i s;rw [show wayR.size = 3 from rfl] at s;rw [show j * wayR.size = j * 3 from rfl];have h3 : i = 0 ∨ i = 1 ∨ i = 2 := by omega
     rcases h3 with rfl | rfl | rfl
     ·rw [Array.getElem?_setIfInBounds_ne (by omega), Nat.add_zero, Array.getElem?_setIfInBounds_self_of_lt (by omega)];rfl
     ·rw [Array.getElem?_setIfInBounds_self_of_lt (by simp; omega)];rfl
     ·rw [Array.getElem?_setIfInBounds_ne (by omega), Array.getElem?_setIfInBounds_ne (by omega)];exact b 2 (by decide)
    ·intro i s O;have A : i ≠ G := fun e => s5 (by rw [← e]; exact s);rw [Y.block i (by simpa using O) (fun o => R i o s), heap_setCell_other _ ⟨G, j * 3 + 1, none⟩ i _ A, heap_setCell_other _ ⟨G, j * 3, none⟩ i _ A]
   have HO : Hid (intsR.own ((wr.setCell ⟨G, j * 3, none⟩ (.int .i64 kk)).setCell ⟨G, j * 3 + 1, none⟩ (.int .i64 (kk + 1))) Sj [.slice E x.2.2.length D] x.2.2) := own_setC (own_setC r B) B;clear o F n f b a V s2 R B s5 p h r X;generalize slcnt wayM (xs.take j) = TT at HT hT K;go_wp2_with fail
   refine (markInt64S_rep Sj _ _ x.2.2 _ (by omega) (by omega) (by omega) HO.out).mono ?_;rintro e d ⟨rfl, m, gr⟩;obtain ⟨N, z⟩ := HC.out d gr m;have Z := hs.trans z;clear m gr z HC HO q0 q1 q2 f0 f1;go_wp2;go_roundw
   case rel => exact ⟨j + 1, by omega, by go_num, by rw [HT.out]; congr 1; omega, N, Z⟩
   case measure => simp [intOf]; omega
  ·have I : j = xs.length := by omega
   subst I;rw [List.take_length];rw [pmark_all] at F;go_wp2;go_ret
   exact ⟨rfl, F, hs⟩
theorem markWaySS_nil (k : Int) (w : World) :
    Calls Tryz.prog 86 #[.slice none 0 0, .int .i64 k] w fun e' w' => e' = .returned (.int .i64 k) ∧ w' = w := by
 go_enter Tryz.func86, Tryz.ntmps86;go_wp2;refine wp_loop_rounds 1 ?_;rw [rounds_succ];go_wp2;go_ret
 exact ⟨rfl, rfl⟩
theorem markWaySS_rep (S : Foot) (v : Value) (k : Int) (xs : List (List (Int × Int × List Int))) (w : World) (h0 : 0 ≤ k) (h1 : k ≤ 144115188075855872) (hm : slcnt waysM xs ≤ 144115188075855872) (hln : xs.length ≤ 144115188075855872) (h : (slR 143 waysR).own w S [v] xs) :
    Calls Tryz.prog 86 #[v, .int .i64 k] w fun e' d => e' = .returned (.int .i64 (k + slcnt waysM xs)) ∧ (slR 143 waysR).own d S [v] (slmark waysM k xs) ∧ Chg S w d := by
 rcases slown_form h with ⟨rfl, rfl⟩ | ⟨G, n, rfl, hG⟩
 ·exact (markWaySS_nil k w).mono fun e d ⟨e1, e2⟩ => ⟨by simpa [slcnt] using e1, by rw [e2]; exact h, by rw [e2]; exact Chg.refl _ _⟩
 go_enter Tryz.func86, Tryz.ntmps86;go_wp2;go_loopw [1, 5] (fun q i wr => ∃ j : Nat, j ≤ xs.length ∧ i = .int .i64 j ∧ q = .int .i64 (k + slcnt waysM (xs.take j)) ∧ (slR 143 waysR).own wr S [.slice (some ⟨G, 0, none⟩) xs.length n] (pmark waysM k xs j) ∧ Chg S w wr)
  (fun _ i _ => xs.length - (intOf i).toNat)
 case atStart => exact ⟨0, Nat.zero_le _, rfl, by simp [slcnt], by rw [pmark_zero]; exact h, Chg.refl _ _⟩
 case round =>
  obtain ⟨j, hj, rfl, rfl, y, Z⟩ := hrel;by_cases B : j < xs.length
  ·have bA : (j : Int) < (xs.length : Int) := by omega
   obtain ⟨x, o⟩ : ∃ x, xs[j]? = some x := ⟨_, List.getElem?_eq_getElem B⟩;have V : Hid (slcnt waysM (xs.take (j + 1)) = slcnt waysM (xs.take j) + slcnt wayM x) := slcnt_step (M := waysM) o;have hT : slcnt waysM (xs.take j) + slcnt wayM x ≤ slcnt waysM xs := slcnt_get (M := waysM) o;have s : Hid _ := pmark_step (M := waysM) (k := k) o;obtain ⟨g, dA, p, Sj, T, c, X, R, a, b, r, l, K, s2, H, O, s5, f⟩ := slown_focus y (pmark_at o);obtain ⟨Y, rfl⟩ : ∃ Y, c = [Y] := List.length_eq_one_iff.1 r;obtain ⟨L, E, rfl⟩ := slown_val l;simp only [Value.slice.injEq, Option.some.injEq, Addr.mk.injEq, and_true] at X;obtain ⟨rfl, I⟩ := X;clear I r;have q1 : wr.cell? ⟨G, j, none⟩ = some (.slice L x.length E) := by
    rw [cell_of_row wr G j p _ (0, 0) a];have := b 0 Nat.zero_lt_one;rwa [show j * (waysR).size + 0 = j from Nat.mul_one j] at this
   have HO : Hid _ := l;have U : Hid (∀ d, Chg Sj wr d → (waysR).own d Sj [.slice L x.length E] (slmark wayM (k + slcnt waysM (xs.take j)) x) → (slR 143 waysR).own d S [.slice (some ⟨G, 0, none⟩) xs.length n] (pmark waysM k xs (j + 1))) := by
    intro d hc C;rw [← s.out];have z : G < wr.heap.size := (ltH a);exact f d p [.slice L x.length E] _ Sj S (by rw [hc.block G z O]; exact a) rfl (fun _ _ => rfl) b (hc.keeps H.symm) C H O R K s2
   have F : Hid _ := K;clear o y l f b a s2 H O s5 K s h;generalize slcnt waysM (xs.take j) = T at V hT U ⊢;go_wp2_with (go_at_call 139; refine (markWayS_rep Sj _ _ x _ (by omega) (by omega) (by omega) HO.out).mono ?_; rintro e d ⟨rfl, m, J⟩)
   have D := U.out d J m;have N := Z.trans (J.mono F.out);clear m J;go_roundw
   case rel => exact ⟨j + 1, by omega, by go_num, by rw [V.out]; go_num, D, N⟩
   case measure => simp [intOf]; omega
  ·have A : j = xs.length := by omega
   subst A;rw [List.take_length];rw [pmark_all] at y;go_wp2;go_ret
   exact ⟨rfl, y, Z⟩
section
variable {α : Type}
end
theorem bd_way : Bd wayM 3 := bd_prod bd_int (bd_prod bd_int (bd_sl bd_int))
variable {α : Type}
theorem chg_set {w : World} {g i : Nat} {v : Value} : Chg (fun b => b = g) w (w.setCell ⟨g, i, none⟩ v) := ⟨rfl, rfl, rfl, by simp, fun j _ hj => heap_setCell_other w ⟨g, i, none⟩ j v hj⟩
variable {α : Type}
def At (w : World) (t : TypeId) (G off : Nat) (cs : List Value) : Prop := ∃ cur, w.heap[G]? = some (.cells cur t (0, 0)) ∧ off + cs.length ≤ cur.size ∧ ∀ j, j < cs.length → cur[off + j]? = cs[j]?
theorem at_lt {w : World} {t : TypeId} {G off : Nat} {cs : List Value} (h : At w t G off cs) : G < w.heap.size := by
 obtain ⟨b, a, _⟩ := h;exact (ltH a)
theorem at_cell {w : World} {t : TypeId} {G off : Nat} {cs : List Value} (h : At w t G off cs) (j : Nat) {v : Value} (hv : cs[j]? = some v) : w.cell? ⟨G, off + j, none⟩ = some v := by
 obtain ⟨a, b, _, c⟩ := h;rw [cell_of_row w G _ a t (0, 0) b, c j (List.getElem?_eq_some_iff.1 hv).1];exact hv
theorem at_cell0 {w : World} {t : TypeId} {G : Nat} {off : Nat} {cs : List Value} {v : Value} (h : At w t G off (v :: cs)) : w.cell? ⟨G, off, none⟩ = some v := at_cell h 0 rfl
theorem at_froz {w : World} {t : TypeId} {G off : Nat} {cs : List Value} (h : At w t G off cs) (j : Nat) : w.frozen? ⟨G, off + j, none⟩ = false := by
 obtain ⟨b, a, _⟩ := h;exact frozen_of_row w G _ _ t a
theorem at_froz0 {w : World} {t : TypeId} {G off : Nat} {cs : List Value} (h : At w t G off cs) : w.frozen? ⟨G, off, none⟩ = false := at_froz h 0
theorem at_keep {w w' : World} {t : TypeId} {G off : Nat} {cs : List Value} (h : At w t G off cs) (hk : w'.heap[G]? = w.heap[G]?) : At w' t G off cs := by
 obtain ⟨a, b, c⟩ := h;exact ⟨a, hk.trans b, c⟩
theorem at_chg {w w' : World} {t : TypeId} {G off : Nat} {cs : List Value} {S : Foot} (h : At w t G off cs) (hc : Chg S w w') (hn : ¬ S G) : At w' t G off cs := at_keep h (hc.block G (at_lt h) hn)
theorem at_set {w : World} {t : TypeId} {G off : Nat} {cs cs' : List Value} (h : At w t G off cs) (j : Nat) (v : Value) (e : cs' = cs.set j v) : At (w.setCell ⟨G, off + j, none⟩ v) t G off cs' := by
 obtain ⟨a, f, c, d⟩ := h;subst e;refine ⟨_, heap_setCell_same w G (off + j) a t v f, by simpa using c, fun i hi => ?_⟩;rw [List.length_set] at hi;by_cases b : i = j
 ·subst b;rw [Array.getElem?_setIfInBounds_self_of_lt (by omega), List.getElem?_set_self hi]
 ·rw [Array.getElem?_setIfInBounds_ne (by omega), List.getElem?_set_ne (by omega)];exact d i hi
def In (G off n : Nat) (w w' : World) : Prop := ∀ cur t, w.heap[G]? = some (.cells cur t (0, 0)) → ∃ cur' : Array Value, w'.heap[G]? = some (.cells cur' t (0, 0)) ∧ cur'.size = cur.size ∧ ∀ i, i < off ∨ off + n ≤ i → cur'[i]? = cur[i]?
theorem In.refl (G off n : Nat) (w : World) : In G off n w w := fun cur t h => ⟨cur, h, rfl, fun _ _ => rfl⟩
theorem In.trans {G off n : Nat} {a b c : World} (h : In G off n a b) (k : In G off n b c) : In G off n a c := fun cur t hc => by
 obtain ⟨g, f, p, m⟩ := h cur t hc;obtain ⟨d, l, j, o⟩ := k g t f;exact ⟨d, l, j.trans p, fun i hi => (o i hi).trans (m i hi)⟩
theorem In.same {G off n : Nat} {w w' : World} (h : w'.heap[G]? = w.heap[G]?) : In G off n w w' := fun cur t hc => ⟨cur, h.trans hc, rfl, fun _ _ => rfl⟩
theorem In.set {G off n j : Nat} {w : World} {v : Value} (hj : j < n) : In G off n w (w.setCell ⟨G, off + j, none⟩ v) := fun cur t hc =>
 ⟨_, heap_setCell_same w G (off + j) cur t v hc, by simp, fun i hi => Array.getElem?_setIfInBounds_ne (by omega)⟩
theorem In.mono {G off n off' n' : Nat} {w w' : World} (h : In G off n w w') (h1 : off' ≤ off) (h2 : off + n ≤ off' + n') : In G off' n' w w' := fun cur t hc => by
 obtain ⟨c, b, f, d⟩ := h cur t hc;exact ⟨c, b, f, fun i hi => d i (by omega)⟩
structure Obj1 (R : Rep α) (t : TypeId) (w : World) (G off : Nat) (S : Foot) (cs : List Value) (x : α) : Prop where
 lies : At w t G off cs
 own : R.own w S cs x
 out : ¬ S G
structure Turn (G off n : Nat) (S : Foot) (w w' : World) : Prop where
 chg : Chg (fun k => S k ∨ k = G) w w'
 row : In G off n w w'
theorem Turn.refl (G off n : Nat) (S : Foot) (w : World) : Turn G off n S w w := ⟨Chg.refl _ _, In.refl _ _ _ _⟩
theorem Turn.mono {G off n : Nat} {S T : Foot} {w w' : World} (h : Turn G off n S w w') (hs : Sub S T) : Turn G off n T w w' := ⟨h.chg.mono (fun k hk => hk.imp (hs k) id), h.row⟩
theorem Turn.trans {G off n : Nat} {S S' : Foot} {a b c : World} (h : Turn G off n S a b) (k : Turn G off n S' b c) (hS : ∀ k, S' k → S k ∨ (a.heap.size ≤ k)) : Turn G off n S a c := by
 refine ⟨⟨k.chg.os.trans h.chg.os, k.chg.tape.trans h.chg.tape, k.chg.output.trans h.chg.output, Nat.le_trans h.chg.size k.chg.size, fun j hj hn => ?_⟩, h.row.trans k.row⟩;have hb := h.chg.size;refine (k.chg.block j (by omega) (fun d => ?_)).trans (h.chg.block j hj hn);rcases d with d | d
 ·rcases hS j d with f | f
  ·exact hn (.inl f)
  ·omega
 ·exact hn (.inr d)
theorem turn_set {G off n j : Nat} {S : Foot} {w : World} {v : Value} (hj : j < n) : Turn G off n S w (w.setCell ⟨G, off + j, none⟩ v) :=
 ⟨⟨rfl, rfl, rfl, by simp, fun k _ hn => heap_setCell_other w ⟨G, off + j, none⟩ k v (fun e => hn (.inr e))⟩, In.set hj⟩
theorem turn_chg {G off n : Nat} {S : Foot} {w w' : World} (h : Chg S w w') (hg : ¬ S G) (hl : G < w.heap.size) : Turn G off n S w w' := ⟨h.mono (fun _ hk => .inl hk), In.same (h.block G hl hg)⟩
theorem elem_focus {e : TypeId} {R : Rep α} {w : World} {S : Foot} {v : Value} {xs : List α} {j : Nat} {x : α} (h : (slR e R).own w S [v] xs) (hx : xs[j]? = some x) :
    ∃ g f Sj T c, v = .slice (some ⟨g, 0, none⟩) xs.length f ∧ S g ∧ Obj1 R e w g (j * R.size) Sj c x ∧ Sub Sj S ∧ Sub T S ∧ Dis Sj T ∧ ¬ T g ∧
     ∀ k y o U V, Obj1 R e k g (j * R.size) U y o → In g (j * R.size) R.size w k → Keeps T w k → Dis U T → V g → Sub U V → Sub T V → (slR e R).own k V [v] (xs.set j o) := by
 obtain ⟨g, f, b, Sj, T, c, N, C, D, F, aA, ho, Y, s2, X, n1, H, l⟩ := slown_focus h hx;have s : j * R.size + R.size ≤ b.size ∨ R.size = 0 := by
  by_cases r : R.size = 0
  ·exact .inr r
  ·left
   have p := F (R.size - 1) (by omega);have I : (R.size - 1) < c.length := by omega
   rw [List.getElem?_eq_getElem I] at p;have := (ltH p);omega
 have dA : j * R.size + R.size ≤ b.size := by
  rcases s with p | r
  ·exact p
  ·rw [r]; simp
 refine ⟨g, f, Sj, T, c, N, C, ⟨⟨b, D, by omega, fun i hi => F i (by omega)⟩, ho, n1⟩, Y, s2, X, H, ?_⟩;intro k y o U V n A hk z L M J;obtain ⟨m, G, K, O⟩ := A b e D;obtain ⟨d, q, f2, Z⟩ := n.lies;have B : d = m := by rw [G] at q; simp at q; exact q.symm
 subst B;have E := R.rd_len (R.own_rd n.own);exact l k d y o U V G K (fun i hi => O i (by omega)) (fun i hi => Z i (by omega)) hk n.own z n.out L M J
theorem elem_set {e : TypeId} {R : Rep α} {w : World} {S : Foot} {g n cap : Nat} {xs : List α} {j i : Nat} {x x' : α} {v : Value} (h : (slR e R).own w S [.slice (some ⟨g, 0, none⟩) n cap] xs) (hx : xs[j]? = some x) (hi : i < R.size) (hc : ∀ c, R.rd w c x → (∀ W T, R.own W T c x → R.own W T (c.set i v) x')) :
    (slR e R).own (w.setCell ⟨g, j * R.size + i, none⟩ v) S [.slice (some ⟨g, 0, none⟩) n cap] (xs.set j x') := by
 obtain ⟨g1, m, Sj, T, o, l, f, b, y, q, r, p, a⟩ := elem_focus h hx;simp only [Value.slice.injEq, Option.some.injEq, Addr.mk.injEq, and_true] at l;obtain ⟨rfl, -, rfl⟩ := l;have d : ∀ F : Foot, ¬ F g → Keeps F w (w.setCell ⟨g, j * R.size + i, none⟩ v) := fun F hF k d _ => heap_setCell_other w ⟨g, j * R.size + i, none⟩ k v (fun e => hF (by have s : k = g := e; rw [← s]; exact d));exact a _ (o.set i v) x' Sj S ⟨at_set b.lies i v rfl, hc o (R.own_rd b.own) _ _ (R.own_keep b.own (d Sj b.out)), b.out⟩ (In.set hi) (d T p) r f y q
theorem op_own4 {w : World} {S : Foot} {c : List Value} {u : OpD} (h : opR.own w S c u) : c = [.int .i64 u.1, .int .i64 u.2.1, .int .i64 u.2.2.1, .int .i64 u.2.2.2] ∧ In4 u := op_rd (opR.own_rd h)
theorem op_set0 {w : World} {c : List Value} {x : OpD} {y : Int} (hy : In64 y) (hr : opR.rd w c x) : ∀ W T, opR.own W T c x → opR.own W T (c.set 0 (.int .i64 y)) (y, x.2) := by
 intro W T a;obtain ⟨rfl, h⟩ := op_own4 a;exact own_op (u := (y, x.2)) ⟨hy, h.2.1, h.2.2.1, h.2.2.2⟩
theorem op_set1 {w : World} {c : List Value} {x : OpD} {y : Int} (hy : In64 y) (hr : opR.rd w c x) : ∀ W T, opR.own W T c x → opR.own W T (c.set 1 (.int .i64 y)) (x.1, y, x.2.2) := by
 intro W T a;obtain ⟨rfl, h⟩ := op_own4 a;exact own_op (u := (x.1, y, x.2.2)) ⟨h.1, hy, h.2.2.1, h.2.2.2⟩
theorem op_set2 {w : World} {c : List Value} {x : OpD} {y : Int} (hy : In64 y) (hr : opR.rd w c x) : ∀ W T, opR.own W T c x → opR.own W T (c.set 2 (.int .i64 y)) (x.1, x.2.1, y, x.2.2.2) := by
 intro W T a;obtain ⟨rfl, h⟩ := op_own4 a;exact own_op (u := (x.1, x.2.1, y, x.2.2.2)) ⟨h.1, h.2.1, hy, h.2.2.2⟩
theorem op_set3 {w : World} {c : List Value} {x : OpD} {y : Int} (hy : In64 y) (hr : opR.rd w c x) : ∀ W T, opR.own W T c x → opR.own W T (c.set 3 (.int .i64 y)) (x.1, x.2.1, x.2.2.1, y) := by
 intro W T a;obtain ⟨rfl, h⟩ := op_own4 a;exact own_op (u := (x.1, x.2.1, x.2.2.1, y)) ⟨h.1, h.2.1, h.2.2.1, hy⟩
theorem in64_k {k : Int} (h0 : 0 ≤ k) (h1 : k ≤ 1152921504606846976) : In64 k := by constructor <;> omega
theorem get_set {α : Type} {xs : List α} {j : Nat} {x a : α} (h : xs[j]? = some x) : (xs.set j a)[j]? = some a := by
 rw [List.getElem?_set_self (List.getElem?_eq_some_iff.1 h).1]
theorem markOpS_nil (k : Int) (w : World) :
    Calls Tryz.prog 87 #[.slice none 0 0, .int .i64 k] w fun e' w' => e' = .returned (.int .i64 k) ∧ w' = w := by
 go_enter Tryz.func87, Tryz.ntmps87;go_wp2;refine wp_loop_rounds 1 ?_;rw [rounds_succ];go_wp2;go_ret
 exact ⟨rfl, rfl⟩
theorem markOp_round {S : Foot} {G n cap j : Nat} {w : World} {xs : List OpD} {x : OpD} {kk : Int} (h0 : 0 ≤ kk) (h1 : kk ≤ 1152921504606846970) (h : opsR.own w S [.slice (some ⟨G, 0, none⟩) n cap] xs) (hx : xs[j]? = some x) :
    opsR.own ((((w.setCell ⟨G, j * 4, none⟩ (.int .i64 kk)).setCell ⟨G, j * 4 + 1, none⟩ (.int .i64 (kk + 1))).setCell ⟨G, j * 4 + 2, none⟩ (.int .i64 (kk + 1 + 1))).setCell ⟨G, j * 4 + 3, none⟩ (.int .i64 (kk + 1 + 1 + 1))) S [.slice (some ⟨G, 0, none⟩) n cap] (xs.set j (kk, kk + 1, kk + 1 + 1, kk + 1 + 1 + 1)) ∧
    Chg (fun k => k = G) w ((((w.setCell ⟨G, j * 4, none⟩ (.int .i64 kk)).setCell ⟨G, j * 4 + 1, none⟩ (.int .i64 (kk + 1))).setCell ⟨G, j * 4 + 2, none⟩ (.int .i64 (kk + 1 + 1))).setCell ⟨G, j * 4 + 3, none⟩ (.int .i64 (kk + 1 + 1 + 1))) := by
 have f := elem_set (i := 0) (v := .int .i64 kk) h hx (by decide) (fun c hr => op_set0 (in64_k (by omega) (by omega)) hr);have b := elem_set (i := 1) (v := .int .i64 (kk + 1)) f (get_set hx) (by decide) (fun c hr => op_set1 (in64_k (by omega) (by omega)) hr);rw [List.set_set] at b;have a := elem_set (i := 2) (v := .int .i64 (kk + 1 + 1)) b (get_set hx) (by decide) (fun c hr => op_set2 (in64_k (by omega) (by omega)) hr);rw [List.set_set] at a;have d := elem_set (i := 3) (v := .int .i64 (kk + 1 + 1 + 1)) a (get_set hx) (by decide) (fun c hr => op_set3 (in64_k (by omega) (by omega)) hr);rw [List.set_set] at d;exact ⟨d, ((chg_set.trans chg_set).trans chg_set).trans chg_set⟩
theorem markOpS_rep (S : Foot) (v : Value) (k : Int) (xs : List OpD) (w : World) (h0 : 0 ≤ k) (h1 : k ≤ 288230376151711744) (hm : slcnt opM xs ≤ 288230376151711744) (h : opsR.own w S [v] xs) :
    Calls Tryz.prog 87 #[v, .int .i64 k] w fun e' w' => e' = .returned (.int .i64 (k + slcnt opM xs)) ∧ opsR.own w' S [v] (slmark opM k xs) ∧ Chg S w w' := by
 rcases slown_form h with ⟨rfl, rfl⟩ | ⟨G, n, rfl, L⟩
 ·exact (markOpS_nil k w).mono fun e w' ⟨e1, e2⟩ => ⟨by simpa [slcnt] using e1, by rw [e2]; exact h, by rw [e2]; exact Chg.refl _ _⟩
 have J := cnt_ops xs;have H : Hid _ := h;clear h;go_enter Tryz.func87, Tryz.ntmps87;go_wp2;go_loopw [1, 5] (fun q i wr => ∃ j : Nat, j ≤ xs.length ∧ i = .int .i64 j ∧ q = .int .i64 (k + slcnt opM (xs.take j)) ∧ opsR.own wr S [.slice (some ⟨G, 0, none⟩) xs.length n] (pmark opM k xs j) ∧ Chg S w wr) (fun _ i _ => xs.length - (intOf i).toNat)
 case atStart => exact ⟨0, Nat.zero_le _, rfl, by simp [slcnt], by rw [pmark_zero]; exact H.out, Chg.refl _ _⟩
 case round =>
  obtain ⟨j, hj, rfl, rfl, f, l⟩ := hrel;by_cases o : j < xs.length
  ·have B : (j : Int) < (xs.length : Int) := by omega
   obtain ⟨x, d⟩ : ∃ x, xs[j]? = some x := ⟨_, List.getElem?_eq_getElem o⟩;have z : Hid (slcnt opM (xs.take (j + 1)) = slcnt opM (xs.take j) + 4) := slcnt_step (M := opM) d;have D : slcnt opM (xs.take j) + 4 ≤ slcnt opM xs := slcnt_get (M := opM) d;have c := pmark_step (M := opM) (k := k) d;obtain ⟨G1, C, Sj, Tj, cj, A, -, a, -⟩ := elem_focus f (pmark_at d);simp only [Value.slice.injEq, Option.some.injEq, Addr.mk.injEq, and_true] at A;obtain ⟨rfl, -, rfl⟩ := A;obtain ⟨rfl, -⟩ := op_own4 a.own;have R := at_cell0 a.lies;have K := at_cell a.lies 1 rfl;have I := at_cell a.lies 2 rfl;have O := at_cell a.lies 3 rfl;have E := at_froz0 a.lies;have T := at_froz a.lies 1;have F := at_froz a.lies 2;have N := at_froz a.lies 3;rw [show j * opR.size = j * 4 from rfl] at R K I O E T F N;generalize p : k + (slcnt opM (xs.take j) : Int) = kk at c ⊢;have s : 0 ≤ kk ∧ kk ≤ 576460752303423488 := by omega
   obtain ⟨r, y⟩ := markOp_round (kk := kk) s.1 (by omega) f (pmark_at d);rw [show (kk, kk + 1, kk + 1 + 1, kk + 1 + 1 + 1) = opM.mE kk x from rfl, c] at r;have g : Hid _ := And.intro r (l.trans (y.mono (fun b hb => by rw [hb]; exact L)));clear r y a f l c d;generalize slcnt opM (xs.take j) = TT at z D p;go_wp2;go_roundw
   case rel => exact ⟨j + 1, by omega, by go_num, by rw [z.out]; congr 1; omega, g.out.1, g.out.2⟩
   case measure => simp [intOf]; omega
  ·have m : j = xs.length := by omega
   subst m;rw [List.take_length];rw [pmark_all] at f;have g : Hid _ := And.intro f l;clear f l;go_wp2;go_ret
   exact ⟨rfl, g.out.1, g.out.2⟩
theorem szOps_u : SzC 109 opsR opsM cell1 := by
 rintro cs x b w ⟨a, c, rfl, i, f, l3⟩ d g;exact (szOpS_rep a x c b w d g (Nat.le_trans i f)).mono fun e w' ⟨q, r⟩ => ⟨q, be_eq r⟩
theorem toOps_u : ToC 115 opsR opsM cell1 := by
 rintro cs x w ⟨a, b, rfl, l1, l2, f⟩ d;refine (toOpS_rep a x b w f d).mono ?_;rintro e w' ⟨v, rfl, c⟩;exact ⟨[v], rfl, c⟩
theorem eqOps_u : EqC 135 opsR opsM cell1 := by
 rintro cs ds x w ⟨a, c, rfl, l1, l2, g⟩ ⟨b, d, rfl, k1, k2, f⟩ hm;exact eqOpS_rep a b x c d w g f (by have : lot = 4398046511104 := rfl; omega)
theorem mkOps_u : MkC 87 opsR opsM cell1 := by
 intro S cs x k w h a hm hb;obtain ⟨v, rfl⟩ := own_cell h;have e : lot = 4398046511104 := rfl;have e2 : opsM.cV x = slcnt opM x := rfl;exact markOpS_rep S v k x w a (by omega) (by omega) h
theorem szWay_u : SzC 110 wayR wayM aggV := by
 intro cs x b w h d g;obtain ⟨a, c, rfl, i1, i2, i, f, l3⟩ := way_rd h;exact szWay_rep x.1 x.2.1 x.2.2 a c b w d g (Nat.le_trans i f)
theorem toWay_u : ToC 116 wayR wayM aggV := by
 intro cs x w h hm;obtain ⟨a, b, rfl, c, f, l1, l2, g⟩ := way_rd h;refine (toWay_rep x.1 x.2.1 x.2.2 a b w c f g (by have : wayM.bk x = 0 + (0 + intsM.bk x.2.2) := rfl; omega)).mono ?_;rintro e w' ⟨av, cv, rfl, d⟩;exact ⟨_, rfl, d⟩
theorem eqWay_u : EqC 136 wayR wayM aggV := by
 intro cs ds x w h k hm;obtain ⟨a, c, rfl, i1, i2, l1, l2, d⟩ := way_rd h;obtain ⟨b, f, rfl, _, _, k1, k2, g⟩ := way_rd k;exact eqWay_rep x.1 x.2.1 x.2.2 a b c f w d g (by have : wayM.bk x = 0 + (0 + intsM.bk x.2.2) := rfl; have : lot = 4398046511104 := rfl; omega)
theorem szCache_u : SzC 108 cacheR cacheM aggV := by
 intro cs x c w h f l;obtain ⟨a, d, b, g, rfl, n, k, j, i, m, r2⟩ := cache_rd h;exact szCache_rep a b x d g c w m f l (Nat.le_trans n k) (Nat.le_trans j i)
theorem toCache_u : ToC 114 cacheR cacheM aggV := by
 intro cs x w h g;obtain ⟨a, c, b, i, rfl, l1, l2, m1, m2, d, j⟩ := cache_rd h;refine (toCache_rep a b x c i w d j g).mono ?_;rintro e w' ⟨av, cv, bv, dv, rfl, f⟩;exact ⟨_, rfl, f⟩
theorem eqCache_u : EqC 134 cacheR cacheM aggV := by
 intro cs ds x w h k hm;obtain ⟨a, d, b, j, rfl, l1, l2, m1, m2, g, m⟩ := cache_rd h;obtain ⟨n, c, l, f, rfl, _, _, _, _, o, i⟩ := cache_rd k;exact eqCache_rep x a b n l d j c f w g m o i (by have : lot = 4398046511104 := rfl; omega)
variable {α : Type}
def setCs (w : World) (g : Nat) : Nat → List Value → World
 | _, [] => w
 | o, v :: vs => setCs (w.setCell ⟨g, o, none⟩ v) g (o + 1) vs
def putA (cs : Array Value) : Nat → List Value → Array Value
 | _, [] => cs
 | o, v :: vs => putA (cs.setIfInBounds o v) (o + 1) vs
theorem row_setCs {g : Nat} {t : TypeId} : ∀ (vs : List Value) (o : Nat) {w : World} {cs : Array Value}, w.heap[g]? = some (.cells cs t (0, 0)) → (setCs w g o vs).heap[g]? = some (.cells (putA cs o vs) t (0, 0))
 | [], _, _, _, h => h
 | v :: vs, o, w, cs, h => row_setCs vs (o + 1) (heap_setCell_same w g o cs t v h)
theorem chg_setCs {g : Nat} : ∀ (vs : List Value) (o : Nat) (w : World), Chg (fun k => k = g) w (setCs w g o vs)
 | [], _, w => Chg.refl _ w
 | v :: vs, o, w => (show Chg (fun k => k = g) w (w.setCell ⟨g, o, none⟩ v) from ⟨rfl, rfl, rfl, by simp, fun k hk hn => heap_setCell_other w ⟨g, o, none⟩ k v hn⟩).trans (chg_setCs vs (o + 1) _)
theorem below_setCs {a w : World} {B g o : Nat} {vs : List Value} (h : Below B a w) (hB : B ≤ w.heap.size) (hg : B ≤ g) : Below B a (setCs w g o vs) :=
 (chg_setCs vs o w).below h (fun k hk => by have : k = g := hk; omega) hB
theorem below_setCs0 {a w : World} {g o : Nat} {vs : List Value} (h : Below a.heap.size a w) (hg : a.heap.size ≤ g) : Below a.heap.size a (setCs w g o vs) := below_setCs h h.size hg
theorem own_setCs {R : Rep α} {w : World} {S : Foot} {cs : List Value} {x : α} {g o : Nat} {vs : List Value} (h : R.own w S cs x) (hg : ¬ S g) : R.own (setCs w g o vs) S cs x :=
 own_chg h (chg_setCs vs o w) fun k hk e => by have a : k = g := e; subst a; exact hg hk
end Go.Proofs.YtcocbafhcpdheaaGreatDoor
