import Derived.Test.YtcocbafhcpdheaaGreatDoorS00Box
import Derived.Test.YtcocbafhcpdheaaGreatDoorS08Ways2
import Derived.Test.YtcocbafhcpdheaaGreatDoorS11OkLink
namespace Go.Proofs.YtcocbafhcpdheaaGreatDoor
set_option maxHeartbeats 2000000
open Go.ChangeShapes Go.WideShapes Go.ChangeAt Go.RowKit Go.Shelf
set_option linter.unusedVariables false
open Go.ChangeShapes Go.WideShapes Go.ChangeAt Go.RowKit
theorem in64_w {k : Int} (h0 : 0 ≤ k) (h1 : k ≤ 1152921504606846976) : In64 k := by constructor <;> omega
theorem cnt_len (xs : List (Int × Int × List Int)) : xs.length ≤ slcnt wayM xs := by
 induction xs with
 | nil => exact Nat.zero_le _
 | cons x xs ih =>
  simp only [slcnt, List.map_cons, List.sum_cons, List.length_cons] at ih ⊢;have : 1 ≤ wayM.cE x := by show 1 ≤ 1 + _; omega
  omega
theorem markWayS_nil (k : Int) (w : World) :
    Calls Tryz.prog 139 #[.slice none 0 0, .int .i64 k] w fun e' w' => e' = .returned (.int .i64 k) ∧ w' = w := by
 go_enter Tryz.func139, Tryz.ntmps139;go_wp2;refine wp_loop_rounds 1 ?_;rw [rounds_succ];go_wp2;go_ret
 exact ⟨rfl, rfl⟩
theorem markWayS_rep (S : Foot) (v : Value) (k : Int) (xs : List (Int × Int × List Int)) (w : World) (h0 : 0 ≤ k) (h1 : k ≤ 288230376151711744) (hm : slcnt wayM xs ≤ 288230376151711744) (h : waysR.own w S [v] xs) :
    Calls Tryz.prog 139 #[v, .int .i64 k] w fun e' w' => e' = .returned (.int .i64 (k + slcnt wayM xs)) ∧ waysR.own w' S [v] (slmark wayM k xs) ∧ Chg S w w' := by
 have hln := cnt_len xs;rcases slown_form h with ⟨rfl, rfl⟩ | ⟨G, cap, rfl, hG⟩
 ·exact (markWayS_nil k w).mono fun e w' ⟨e1, e2⟩ => ⟨by simpa [slcnt] using e1, by rw [e2]; exact h, by rw [e2]; exact Chg.refl _ _⟩
 go_enter Tryz.func139, Tryz.ntmps139;go_wp2;go_loopw [1, 5] (fun q i wr => ∃ j : Nat, j ≤ xs.length ∧ i = .int .i64 j ∧ q = .int .i64 (k + slcnt wayM (xs.take j)) ∧ waysR.own wr S [.slice (some ⟨G, 0, none⟩) xs.length cap] (pmark wayM k xs j) ∧ Chg S w wr)
  (fun _ i _ => xs.length - (intOf i).toNat)
 case atStart => exact ⟨0, Nat.zero_le _, rfl, by simp [slcnt], by rw [pmark_zero]; exact h, Chg.refl _ _⟩
 case round =>
  obtain ⟨j, hj, rfl, rfl, ho, hs⟩ := hrel;by_cases hlt : j < xs.length
  ·have hlt' : (j : Int) < (xs.length : Int) := by omega
   obtain ⟨x, hx⟩ : ∃ x, xs[j]? = some x := ⟨_, List.getElem?_eq_getElem hlt⟩;have HT : Hid (slcnt wayM (xs.take (j + 1)) = slcnt wayM (xs.take j) + (1 + (1 + slcnt intM x.2.2))) := slcnt_step (M := wayM) hx;have hT : slcnt wayM (xs.take j) + (1 + (1 + slcnt intM x.2.2)) ≤ slcnt wayM xs := slcnt_get (M := wayM) hx;have HPS : Hid _ := pmark_step (M := wayM) (k := k) hx;obtain ⟨g, cap', cur, Sj, T, c, hv, hSg, hblk, hcur, hcl, hown, s1, s2, s3, s4, s5, close⟩ := slown_focus ho (pmark_at hx);simp only [Value.slice.injEq, Option.some.injEq, Addr.mk.injEq, and_true] at hv;obtain ⟨rfl, hvx⟩ := hv;obtain ⟨vd, rfl, -, -, hod⟩ := way_own hown;obtain ⟨av, cv, rfl⟩ := slown_val hod;have q0 : wr.cell? ⟨G, j * 3, none⟩ = some (.int .i64 x.1) := by rw [cell_of_row wr G _ cur _ (0, 0) hblk]; exact hcur 0 (by decide)
   have q1 : wr.cell? ⟨G, j * 3 + 1, none⟩ = some (.int .i64 x.2.1) := by rw [cell_of_row wr G _ cur _ (0, 0) hblk]; exact hcur 1 (by decide)
   have q2 : wr.cell? ⟨G, j * 3 + 2, none⟩ = some (.slice av x.2.2.length cv) := by rw [cell_of_row wr G _ cur _ (0, 0) hblk]; exact hcur 2 (by decide)
   have f0 : wr.frozen? ⟨G, j * 3, none⟩ = false := frozen_of_row wr G _ _ _ hblk;have f1 : wr.frozen? ⟨G, j * 3 + 1, none⟩ = false := frozen_of_row wr G _ _ _ hblk;have hcs : j * 3 + 2 < cur.size := by
    have := hcur 2 (by decide);exact (Array.getElem?_eq_some_iff.1 (this.trans rfl)).1
   clear hvx hcl;generalize hkk : k + (slcnt wayM (xs.take j) : Int) = kk at HPS ⊢;have hk0 : 0 ≤ kk ∧ kk ≤ 576460752303423488 := by omega
   have HC : Hid (∀ w', Chg Sj ((wr.setCell ⟨G, j * 3, none⟩ (.int .i64 kk)).setCell ⟨G, j * 3 + 1, none⟩ (.int .i64 (kk + 1))) w' → intsR.own w' Sj [.slice av x.2.2.length cv] (slmark intM (kk + 1 + 1) x.2.2) → waysR.own w' S [.slice (some ⟨G, 0, none⟩) xs.length cap] (pmark wayM k xs (j + 1)) ∧ Chg S wr w') := by
    intro w' hc ho';have y1 := heap_setCell_same wr G (j * 3) _ _ (.int .i64 kk) hblk;have y2 := heap_setCell_same _ G (j * 3 + 1) _ _ (.int .i64 (kk + 1)) y1;have hlg : G < wr.heap.size := (ltH hblk)
    have c1 : Chg S wr ((wr.setCell ⟨G, j * 3, none⟩ (.int .i64 kk)).setCell ⟨G, j * 3 + 1, none⟩ (.int .i64 (kk + 1))) := ⟨rfl, rfl, rfl, by simp, fun i hi hn => by
     have : i ≠ G := fun e => hn (by rw [e]; exact hSg)
     rw [heap_setCell_other _ ⟨G, j * 3 + 1, none⟩ i _ this, heap_setCell_other _ ⟨G, j * 3, none⟩ i _ this]⟩
    refine ⟨?_, c1.trans (hc.mono s1)⟩;rw [← HPS.out];refine close w' _ [.int .i64 kk, .int .i64 (kk + 1), .slice av x.2.2.length cv] _ Sj S ((hc.block G (by simpa using hlg) s4).trans y2) (by simp) ?_ ?_ ?_ (own_way (in64_w hk0.1 (by omega)) (in64_w (by omega) (by omega)) ho') s3 s4 hSg s1 s2
    ·intro i hi;rw [show wayR.size = 3 from rfl] at hi;rw [Array.getElem?_setIfInBounds_ne (by omega), Array.getElem?_setIfInBounds_ne (by omega)]
    ·intro i hi;rw [show wayR.size = 3 from rfl] at hi;rw [show j * wayR.size = j * 3 from rfl];have h3 : i = 0 ∨ i = 1 ∨ i = 2 := by omega
     rcases h3 with rfl | rfl | rfl
     ·rw [Array.getElem?_setIfInBounds_ne (by omega), Nat.add_zero, Array.getElem?_setIfInBounds_self_of_lt (by omega)];rfl
     ·rw [Array.getElem?_setIfInBounds_self_of_lt (by simp; omega)];rfl
     ·rw [Array.getElem?_setIfInBounds_ne (by omega), Array.getElem?_setIfInBounds_ne (by omega)];exact hcur 2 (by decide)
    ·intro i hi hil;have hne : i ≠ G := fun e => s5 (by rw [← e]; exact hi);rw [hc.block i (by simpa using hil) (fun hx => s3 i hx hi), heap_setCell_other _ ⟨G, j * 3 + 1, none⟩ i _ hne, heap_setCell_other _ ⟨G, j * 3, none⟩ i _ hne]
   have HO : Hid (intsR.own ((wr.setCell ⟨G, j * 3, none⟩ (.int .i64 kk)).setCell ⟨G, j * 3 + 1, none⟩ (.int .i64 (kk + 1))) Sj [.slice av x.2.2.length cv] x.2.2) := own_setC (own_setC hod s4) s4;clear hx ho hown close hcur hblk s1 s2 s3 s4 s5 HPS h hod hcs;generalize slcnt wayM (xs.take j) = TT at HT hT hkk;go_wp2_with fail
   refine (markInt64S_rep Sj _ _ x.2.2 _ (by omega) (by omega) (by omega) HO.out).mono ?_;rintro e w' ⟨rfl, own2, gr⟩;obtain ⟨ho2, gr2⟩ := HC.out w' gr own2;have hs2 := hs.trans gr2;clear own2 gr gr2 HC HO q0 q1 q2 f0 f1;go_wp2;go_roundw
   case rel => exact ⟨j + 1, by omega, by go_num, by rw [HT.out]; congr 1; omega, ho2, hs2⟩
   case measure => simp [intOf]; omega
  ·have hjn : j = xs.length := by omega
   subst hjn;rw [List.take_length];rw [pmark_all] at ho;go_wp2;go_ret
   exact ⟨rfl, ho, hs⟩
theorem markWaySS_nil (k : Int) (w : World) :
    Calls Tryz.prog 86 #[.slice none 0 0, .int .i64 k] w fun e' w' => e' = .returned (.int .i64 k) ∧ w' = w := by
 go_enter Tryz.func86, Tryz.ntmps86;go_wp2;refine wp_loop_rounds 1 ?_;rw [rounds_succ];go_wp2;go_ret
 exact ⟨rfl, rfl⟩
theorem markWaySS_rep (S : Foot) (v : Value) (k : Int) (xs : List (List (Int × Int × List Int))) (w : World) (h0 : 0 ≤ k) (h1 : k ≤ 144115188075855872) (hm : slcnt waysM xs ≤ 144115188075855872) (hln : xs.length ≤ 144115188075855872) (h : (slR 143 waysR).own w S [v] xs) :
    Calls Tryz.prog 86 #[v, .int .i64 k] w fun e' w' => e' = .returned (.int .i64 (k + slcnt waysM xs)) ∧ (slR 143 waysR).own w' S [v] (slmark waysM k xs) ∧ Chg S w w' := by
 rcases slown_form h with ⟨rfl, rfl⟩ | ⟨G, cap, rfl, hG⟩
 ·exact (markWaySS_nil k w).mono fun e w' ⟨e1, e2⟩ => ⟨by simpa [slcnt] using e1, by rw [e2]; exact h, by rw [e2]; exact Chg.refl _ _⟩
 go_enter Tryz.func86, Tryz.ntmps86;go_wp2;go_loopw [1, 5] (fun q i wr => ∃ j : Nat, j ≤ xs.length ∧ i = .int .i64 j ∧ q = .int .i64 (k + slcnt waysM (xs.take j)) ∧ (slR 143 waysR).own wr S [.slice (some ⟨G, 0, none⟩) xs.length cap] (pmark waysM k xs j) ∧ Chg S w wr)
  (fun _ i _ => xs.length - (intOf i).toNat)
 case atStart => exact ⟨0, Nat.zero_le _, rfl, by simp [slcnt], by rw [pmark_zero]; exact h, Chg.refl _ _⟩
 case round =>
  obtain ⟨j, hj, rfl, rfl, ho, hs⟩ := hrel;by_cases hlt : j < xs.length
  ·have hlt' : (j : Int) < (xs.length : Int) := by omega
   obtain ⟨x, hx⟩ : ∃ x, xs[j]? = some x := ⟨_, List.getElem?_eq_getElem hlt⟩;have HT : Hid (slcnt waysM (xs.take (j + 1)) = slcnt waysM (xs.take j) + slcnt wayM x) := slcnt_step (M := waysM) hx;have hT : slcnt waysM (xs.take j) + slcnt wayM x ≤ slcnt waysM xs := slcnt_get (M := waysM) hx;have HPS : Hid _ := pmark_step (M := waysM) (k := k) hx;obtain ⟨g, cap', cur, Sj, T, c, hv, hSg, hblk, hcur, hcl, hown, s1, s2, s3, s4, s5, close⟩ := slown_focus ho (pmark_at hx);obtain ⟨vj, rfl⟩ : ∃ vj, c = [vj] := List.length_eq_one_iff.1 hcl;obtain ⟨av, cv, rfl⟩ := slown_val hown;simp only [Value.slice.injEq, Option.some.injEq, Addr.mk.injEq, and_true] at hv;obtain ⟨rfl, hvx⟩ := hv;clear hvx hcl;have q1 : wr.cell? ⟨G, j, none⟩ = some (.slice av x.length cv) := by
    rw [cell_of_row wr G j cur _ (0, 0) hblk];have := hcur 0 Nat.zero_lt_one;rwa [show j * (waysR).size + 0 = j from Nat.mul_one j] at this
   have HO : Hid _ := hown;have HC : Hid (∀ w', Chg Sj wr w' → (waysR).own w' Sj [.slice av x.length cv] (slmark wayM (k + slcnt waysM (xs.take j)) x) → (slR 143 waysR).own w' S [.slice (some ⟨G, 0, none⟩) xs.length cap] (pmark waysM k xs (j + 1))) := by
    intro w' hc ho';rw [← HPS.out];have hlg : G < wr.heap.size := (ltH hblk);exact close w' cur [.slice av x.length cv] _ Sj S (by rw [hc.block G hlg s4]; exact hblk) rfl (fun _ _ => rfl) hcur (hc.keeps s3.symm) ho' s3 s4 hSg s1 s2
   have HS1 : Hid _ := s1;clear hx ho hown close hcur hblk s2 s3 s4 s5 s1 HPS h;generalize slcnt waysM (xs.take j) = T at HT hT HC ⊢;go_wp2_with (go_at_call 139; refine (markWayS_rep Sj _ _ x _ (by omega) (by omega) (by omega) HO.out).mono ?_; rintro e w' ⟨rfl, own2, gr⟩)
   have ho2 := HC.out w' gr own2;have hs2 := hs.trans (gr.mono HS1.out);clear own2 gr;go_roundw
   case rel => exact ⟨j + 1, by omega, by go_num, by rw [HT.out]; go_num, ho2, hs2⟩
   case measure => simp [intOf]; omega
  ·have hjn : j = xs.length := by omega
   subst hjn;rw [List.take_length];rw [pmark_all] at ho;go_wp2;go_ret
   exact ⟨rfl, ho, hs⟩
section
variable {α : Type}
end
theorem bd_way : Bd wayM 3 := bd_prod bd_int (bd_prod bd_int (bd_sl bd_int))
variable {α : Type}
theorem chg_set {w : World} {g i : Nat} {v : Value} : Chg (fun b => b = g) w (w.setCell ⟨g, i, none⟩ v) := ⟨rfl, rfl, rfl, by simp, fun j _ hj => heap_setCell_other w ⟨g, i, none⟩ j v hj⟩
variable {α : Type}
def At (w : World) (t : TypeId) (G off : Nat) (cs : List Value) : Prop := ∃ cur, w.heap[G]? = some (.cells cur t (0, 0)) ∧ off + cs.length ≤ cur.size ∧ ∀ j, j < cs.length → cur[off + j]? = cs[j]?
theorem at_lt {w : World} {t : TypeId} {G off : Nat} {cs : List Value} (h : At w t G off cs) : G < w.heap.size := by
 obtain ⟨b, a, _⟩ := h;exact (ltH a)
theorem at_cell {w : World} {t : TypeId} {G off : Nat} {cs : List Value} (h : At w t G off cs) (j : Nat) {v : Value} (hv : cs[j]? = some v) : w.cell? ⟨G, off + j, none⟩ = some v := by
 obtain ⟨a, c, _, b⟩ := h;rw [cell_of_row w G _ a t (0, 0) c, b j (List.getElem?_eq_some_iff.1 hv).1];exact hv
theorem at_cell0 {w : World} {t : TypeId} {G : Nat} {off : Nat} {cs : List Value} {v : Value} (h : At w t G off (v :: cs)) : w.cell? ⟨G, off, none⟩ = some v := at_cell h 0 rfl
theorem at_froz {w : World} {t : TypeId} {G off : Nat} {cs : List Value} (h : At w t G off cs) (j : Nat) : w.frozen? ⟨G, off + j, none⟩ = false := by
 obtain ⟨b, a, _⟩ := h;exact frozen_of_row w G _ _ t a
theorem at_froz0 {w : World} {t : TypeId} {G off : Nat} {cs : List Value} (h : At w t G off cs) : w.frozen? ⟨G, off, none⟩ = false := at_froz h 0
theorem at_keep {w w' : World} {t : TypeId} {G off : Nat} {cs : List Value} (h : At w t G off cs) (hk : w'.heap[G]? = w.heap[G]?) : At w' t G off cs := by
 obtain ⟨a, c, b⟩ := h;exact ⟨a, hk.trans c, b⟩
theorem at_chg {w w' : World} {t : TypeId} {G off : Nat} {cs : List Value} {S : Foot} (h : At w t G off cs) (hc : Chg S w w') (hn : ¬ S G) : At w' t G off cs := at_keep h (hc.block G (at_lt h) hn)
theorem at_set {w : World} {t : TypeId} {G off : Nat} {cs cs' : List Value} (h : At w t G off cs) (j : Nat) (v : Value) (e : cs' = cs.set j v) : At (w.setCell ⟨G, off + j, none⟩ v) t G off cs' := by
 obtain ⟨b, c, d, f⟩ := h;subst e;refine ⟨_, heap_setCell_same w G (off + j) b t v c, by simpa using d, fun i hi => ?_⟩;rw [List.length_set] at hi;by_cases a : i = j
 ·subst a;rw [Array.getElem?_setIfInBounds_self_of_lt (by omega), List.getElem?_set_self hi]
 ·rw [Array.getElem?_setIfInBounds_ne (by omega), List.getElem?_set_ne (by omega)];exact f i hi
def In (G off n : Nat) (w w' : World) : Prop := ∀ cur t, w.heap[G]? = some (.cells cur t (0, 0)) → ∃ cur' : Array Value, w'.heap[G]? = some (.cells cur' t (0, 0)) ∧ cur'.size = cur.size ∧ ∀ i, i < off ∨ off + n ≤ i → cur'[i]? = cur[i]?
theorem In.refl (G off n : Nat) (w : World) : In G off n w w := fun cur t h => ⟨cur, h, rfl, fun _ _ => rfl⟩
theorem In.trans {G off n : Nat} {a b c : World} (h : In G off n a b) (k : In G off n b c) : In G off n a c := fun cur t hc => by
 obtain ⟨o, m, p, d⟩ := h cur t hc;obtain ⟨j, l, g, f⟩ := k o t m;exact ⟨j, l, g.trans p, fun i hi => (f i hi).trans (d i hi)⟩
theorem In.same {G off n : Nat} {w w' : World} (h : w'.heap[G]? = w.heap[G]?) : In G off n w w' := fun cur t hc => ⟨cur, h.trans hc, rfl, fun _ _ => rfl⟩
theorem In.set {G off n j : Nat} {w : World} {v : Value} (hj : j < n) : In G off n w (w.setCell ⟨G, off + j, none⟩ v) := fun cur t hc =>
 ⟨_, heap_setCell_same w G (off + j) cur t v hc, by simp, fun i hi => Array.getElem?_setIfInBounds_ne (by omega)⟩
theorem In.mono {G off n off' n' : Nat} {w w' : World} (h : In G off n w w') (h1 : off' ≤ off) (h2 : off + n ≤ off' + n') : In G off' n' w w' := fun cur t hc => by
 obtain ⟨c, b, d, f⟩ := h cur t hc;exact ⟨c, b, d, fun i hi => f i (by omega)⟩
structure Obj1 (R : Rep α) (t : TypeId) (w : World) (G off : Nat) (S : Foot) (cs : List Value) (x : α) : Prop where
 lies : At w t G off cs
 own : R.own w S cs x
 out : ¬ S G
structure Turn (G off n : Nat) (S : Foot) (w w' : World) : Prop where
 chg : Chg (fun k => S k ∨ k = G) w w'
 row : In G off n w w'
theorem Turn.refl (G off n : Nat) (S : Foot) (w : World) : Turn G off n S w w := ⟨Chg.refl _ _, In.refl _ _ _ _⟩
theorem Turn.mono {G off n : Nat} {S T : Foot} {w w' : World} (h : Turn G off n S w w') (hs : Sub S T) : Turn G off n T w w' := ⟨h.chg.mono (fun k hk => hk.imp (hs k) id), h.row⟩
theorem Turn.trans {G off n : Nat} {S S' : Foot} {a b c : World} (h : Turn G off n S a b) (k : Turn G off n S' b c) (g : ∀ k, S' k → S k ∨ (a.heap.size ≤ k)) : Turn G off n S a c := by
 refine ⟨⟨k.chg.os.trans h.chg.os, k.chg.tape.trans h.chg.tape, k.chg.output.trans h.chg.output, Nat.le_trans h.chg.size k.chg.size, fun j hj hn => ?_⟩, h.row.trans k.row⟩;have hb := h.chg.size;refine (k.chg.block j (by omega) (fun d => ?_)).trans (h.chg.block j hj hn);rcases d with d | d
 ·rcases g j d with f | f
  ·exact hn (.inl f)
  ·omega
 ·exact hn (.inr d)
theorem turn_set {G off n j : Nat} {S : Foot} {w : World} {v : Value} (hj : j < n) : Turn G off n S w (w.setCell ⟨G, off + j, none⟩ v) :=
 ⟨⟨rfl, rfl, rfl, by simp, fun k _ hn => heap_setCell_other w ⟨G, off + j, none⟩ k v (fun e => hn (.inr e))⟩, In.set hj⟩
theorem turn_chg {G off n : Nat} {S : Foot} {w w' : World} (h : Chg S w w') (hg : ¬ S G) (hl : G < w.heap.size) : Turn G off n S w w' := ⟨h.mono (fun _ hk => .inl hk), In.same (h.block G hl hg)⟩
theorem elem_focus {e : TypeId} {R : Rep α} {w : World} {S : Foot} {v : Value} {xs : List α} {j : Nat} {x : α} (h : (slR e R).own w S [v] xs) (hx : xs[j]? = some x) :
    ∃ g f Sj T c, v = .slice (some ⟨g, 0, none⟩) xs.length f ∧ S g ∧ Obj1 R e w g (j * R.size) Sj c x ∧ Sub Sj S ∧ Sub T S ∧ Dis Sj T ∧ ¬ T g ∧
     ∀ k y p U V, Obj1 R e k g (j * R.size) U y p → In g (j * R.size) R.size w k → Keeps T w k → Dis U T → V g → Sub U V → Sub T V → (slR e R).own k V [v] (xs.set j p) := by
 obtain ⟨g, f, b, Sj, T, c, hv, C, E, F, X, ho, s1, L, Y, I, Z, m⟩ := slown_focus h hx;have s : j * R.size + R.size ≤ b.size ∨ R.size = 0 := by
  by_cases A : R.size = 0
  ·exact .inr A
  ·left
   have n := F (R.size - 1) (by omega);have N : (R.size - 1) < c.length := by omega
   rw [List.getElem?_eq_getElem N] at n;have := (ltH n);omega
 have M : j * R.size + R.size ≤ b.size := by
  rcases s with n | A
  ·exact n
  ·rw [A]; simp
 refine ⟨g, f, Sj, T, c, hv, C, ⟨⟨b, E, by omega, fun i hi => F i (by omega)⟩, ho, I⟩, s1, L, Y, Z, ?_⟩;intro k y p U V o z O r hV hU hT;obtain ⟨l, G, K, J⟩ := z b e E;obtain ⟨d, q, f2, H⟩ := o.lies;have B : d = l := by rw [G] at q; simp at q; exact q.symm
 subst B;have D := R.rd_len (R.own_rd o.own);exact m k d y p U V G K (fun i hi => J i (by omega)) (fun i hi => H i (by omega)) O o.own r o.out hV hU hT
theorem elem_set {e : TypeId} {R : Rep α} {w : World} {S : Foot} {g n cap : Nat} {xs : List α} {j i : Nat} {x x' : α} {v : Value} (h : (slR e R).own w S [.slice (some ⟨g, 0, none⟩) n cap] xs) (hx : xs[j]? = some x) (hi : i < R.size) (hc : ∀ c, R.rd w c x → (∀ W T, R.own W T c x → R.own W T (c.set i v) x')) :
    (slR e R).own (w.setCell ⟨g, j * R.size + i, none⟩ v) S [.slice (some ⟨g, 0, none⟩) n cap] (xs.set j x') := by
 obtain ⟨g1, l, Sj, T, o, m, f, a, s, p, r, q, b⟩ := elem_focus h hx;simp only [Value.slice.injEq, Option.some.injEq, Addr.mk.injEq, and_true] at m;obtain ⟨rfl, -, rfl⟩ := m;have d : ∀ F : Foot, ¬ F g → Keeps F w (w.setCell ⟨g, j * R.size + i, none⟩ v) := fun F hF k d _ => heap_setCell_other w ⟨g, j * R.size + i, none⟩ k v (fun e => hF (by have y : k = g := e; rw [← y]; exact d));exact b _ (o.set i v) x' Sj S ⟨at_set a.lies i v rfl, hc o (R.own_rd a.own) _ _ (R.own_keep a.own (d Sj a.out)), a.out⟩ (In.set hi) (d T q) r f s p
theorem op_own4 {w : World} {S : Foot} {c : List Value} {u : OpD} (h : opR.own w S c u) : c = [.int .i64 u.1, .int .i64 u.2.1, .int .i64 u.2.2.1, .int .i64 u.2.2.2] ∧ In4 u := op_rd (opR.own_rd h)
theorem op_set0 {w : World} {c : List Value} {x : OpD} {y : Int} (hy : In64 y) (hr : opR.rd w c x) : ∀ W T, opR.own W T c x → opR.own W T (c.set 0 (.int .i64 y)) (y, x.2) := by
 intro W T ho;obtain ⟨rfl, h⟩ := op_own4 ho;exact own_op (u := (y, x.2)) ⟨hy, h.2.1, h.2.2.1, h.2.2.2⟩
theorem op_set1 {w : World} {c : List Value} {x : OpD} {y : Int} (hy : In64 y) (hr : opR.rd w c x) : ∀ W T, opR.own W T c x → opR.own W T (c.set 1 (.int .i64 y)) (x.1, y, x.2.2) := by
 intro W T ho;obtain ⟨rfl, h⟩ := op_own4 ho;exact own_op (u := (x.1, y, x.2.2)) ⟨h.1, hy, h.2.2.1, h.2.2.2⟩
theorem op_set2 {w : World} {c : List Value} {x : OpD} {y : Int} (hy : In64 y) (hr : opR.rd w c x) : ∀ W T, opR.own W T c x → opR.own W T (c.set 2 (.int .i64 y)) (x.1, x.2.1, y, x.2.2.2) := by
 intro W T ho;obtain ⟨rfl, h⟩ := op_own4 ho;exact own_op (u := (x.1, x.2.1, y, x.2.2.2)) ⟨h.1, h.2.1, hy, h.2.2.2⟩
theorem op_set3 {w : World} {c : List Value} {x : OpD} {y : Int} (hy : In64 y) (hr : opR.rd w c x) : ∀ W T, opR.own W T c x → opR.own W T (c.set 3 (.int .i64 y)) (x.1, x.2.1, x.2.2.1, y) := by
 intro W T ho;obtain ⟨rfl, h⟩ := op_own4 ho;exact own_op (u := (x.1, x.2.1, x.2.2.1, y)) ⟨h.1, h.2.1, h.2.2.1, hy⟩
theorem in64_k {k : Int} (h0 : 0 ≤ k) (h1 : k ≤ 1152921504606846976) : In64 k := by constructor <;> omega
theorem get_set {α : Type} {xs : List α} {j : Nat} {x a : α} (h : xs[j]? = some x) : (xs.set j a)[j]? = some a := by
 rw [List.getElem?_set_self (List.getElem?_eq_some_iff.1 h).1]
theorem markOpS_nil (k : Int) (w : World) :
    Calls Tryz.prog 87 #[.slice none 0 0, .int .i64 k] w fun e' w' => e' = .returned (.int .i64 k) ∧ w' = w := by
 go_enter Tryz.func87, Tryz.ntmps87;go_wp2;refine wp_loop_rounds 1 ?_;rw [rounds_succ];go_wp2;go_ret
 exact ⟨rfl, rfl⟩
theorem markOp_round {S : Foot} {G n cap j : Nat} {w : World} {xs : List OpD} {x : OpD} {kk : Int} (h0 : 0 ≤ kk) (h1 : kk ≤ 1152921504606846970) (h : opsR.own w S [.slice (some ⟨G, 0, none⟩) n cap] xs) (hx : xs[j]? = some x) :
    opsR.own ((((w.setCell ⟨G, j * 4, none⟩ (.int .i64 kk)).setCell ⟨G, j * 4 + 1, none⟩ (.int .i64 (kk + 1))).setCell ⟨G, j * 4 + 2, none⟩ (.int .i64 (kk + 1 + 1))).setCell ⟨G, j * 4 + 3, none⟩ (.int .i64 (kk + 1 + 1 + 1))) S [.slice (some ⟨G, 0, none⟩) n cap] (xs.set j (kk, kk + 1, kk + 1 + 1, kk + 1 + 1 + 1)) ∧
    Chg (fun k => k = G) w ((((w.setCell ⟨G, j * 4, none⟩ (.int .i64 kk)).setCell ⟨G, j * 4 + 1, none⟩ (.int .i64 (kk + 1))).setCell ⟨G, j * 4 + 2, none⟩ (.int .i64 (kk + 1 + 1))).setCell ⟨G, j * 4 + 3, none⟩ (.int .i64 (kk + 1 + 1 + 1))) := by
 have a1 := elem_set (i := 0) (v := .int .i64 kk) h hx (by decide) (fun c hr => op_set0 (in64_k (by omega) (by omega)) hr);have a2 := elem_set (i := 1) (v := .int .i64 (kk + 1)) a1 (get_set hx) (by decide) (fun c hr => op_set1 (in64_k (by omega) (by omega)) hr);rw [List.set_set] at a2;have a3 := elem_set (i := 2) (v := .int .i64 (kk + 1 + 1)) a2 (get_set hx) (by decide) (fun c hr => op_set2 (in64_k (by omega) (by omega)) hr);rw [List.set_set] at a3;have a4 := elem_set (i := 3) (v := .int .i64 (kk + 1 + 1 + 1)) a3 (get_set hx) (by decide) (fun c hr => op_set3 (in64_k (by omega) (by omega)) hr);rw [List.set_set] at a4;exact ⟨a4, ((chg_set.trans chg_set).trans chg_set).trans chg_set⟩
theorem markOpS_rep (S : Foot) (v : Value) (k : Int) (xs : List OpD) (w : World) (h0 : 0 ≤ k) (h1 : k ≤ 288230376151711744) (hm : slcnt opM xs ≤ 288230376151711744) (h : opsR.own w S [v] xs) :
    Calls Tryz.prog 87 #[v, .int .i64 k] w fun e' w' => e' = .returned (.int .i64 (k + slcnt opM xs)) ∧ opsR.own w' S [v] (slmark opM k xs) ∧ Chg S w w' := by
 rcases slown_form h with ⟨rfl, rfl⟩ | ⟨G, cap, rfl, hG⟩
 ·exact (markOpS_nil k w).mono fun e w' ⟨e1, e2⟩ => ⟨by simpa [slcnt] using e1, by rw [e2]; exact h, by rw [e2]; exact Chg.refl _ _⟩
 have hcn := cnt_ops xs;have H : Hid _ := h;clear h;go_enter Tryz.func87, Tryz.ntmps87;go_wp2;go_loopw [1, 5] (fun q i wr => ∃ j : Nat, j ≤ xs.length ∧ i = .int .i64 j ∧ q = .int .i64 (k + slcnt opM (xs.take j)) ∧ opsR.own wr S [.slice (some ⟨G, 0, none⟩) xs.length cap] (pmark opM k xs j) ∧ Chg S w wr) (fun _ i _ => xs.length - (intOf i).toNat)
 case atStart => exact ⟨0, Nat.zero_le _, rfl, by simp [slcnt], by rw [pmark_zero]; exact H.out, Chg.refl _ _⟩
 case round =>
  obtain ⟨j, hj, rfl, rfl, ho, hs⟩ := hrel;by_cases hlt : j < xs.length
  ·have hlt' : (j : Int) < (xs.length : Int) := by omega
   obtain ⟨x, hx⟩ : ∃ x, xs[j]? = some x := ⟨_, List.getElem?_eq_getElem hlt⟩;have HT : Hid (slcnt opM (xs.take (j + 1)) = slcnt opM (xs.take j) + 4) := slcnt_step (M := opM) hx;have hT : slcnt opM (xs.take j) + 4 ≤ slcnt opM xs := slcnt_get (M := opM) hx;have HPS := pmark_step (M := opM) (k := k) hx;obtain ⟨G1, cap1, Sj, Tj, cj, hv, -, ob, -⟩ := elem_focus ho (pmark_at hx);simp only [Value.slice.injEq, Option.some.injEq, Addr.mk.injEq, and_true] at hv;obtain ⟨rfl, -, rfl⟩ := hv;obtain ⟨rfl, -⟩ := op_own4 ob.own;have y0 := at_cell0 ob.lies;have y1 := at_cell ob.lies 1 rfl;have y2 := at_cell ob.lies 2 rfl;have y3 := at_cell ob.lies 3 rfl;have t0 := at_froz0 ob.lies;have t1 := at_froz ob.lies 1;have t2 := at_froz ob.lies 2;have t3 := at_froz ob.lies 3;rw [show j * opR.size = j * 4 from rfl] at y0 y1 y2 y3 t0 t1 t2 t3;generalize hkk : k + (slcnt opM (xs.take j) : Int) = kk at HPS ⊢;have hk0 : 0 ≤ kk ∧ kk ≤ 576460752303423488 := by omega
   obtain ⟨O2, C2⟩ := markOp_round (kk := kk) hk0.1 (by omega) ho (pmark_at hx);rw [show (kk, kk + 1, kk + 1 + 1, kk + 1 + 1 + 1) = opM.mE kk x from rfl, HPS] at O2;have HF : Hid _ := And.intro O2 (hs.trans (C2.mono (fun b hb => by rw [hb]; exact hG)));clear O2 C2 ob ho hs HPS hx;generalize slcnt opM (xs.take j) = TT at HT hT hkk;go_wp2;go_roundw
   case rel => exact ⟨j + 1, by omega, by go_num, by rw [HT.out]; congr 1; omega, HF.out.1, HF.out.2⟩
   case measure => simp [intOf]; omega
  ·have hjn : j = xs.length := by omega
   subst hjn;rw [List.take_length];rw [pmark_all] at ho;have HF : Hid _ := And.intro ho hs;clear ho hs;go_wp2;go_ret
   exact ⟨rfl, HF.out.1, HF.out.2⟩
theorem szOps_u : SzC 109 opsR opsM cell1 := by
 rintro cs x b w ⟨a, c, rfl, g, f, l3⟩ i d;exact (szOpS_rep a x c b w i d (Nat.le_trans g f)).mono fun e w' ⟨q, r⟩ => ⟨q, be_eq r⟩
theorem toOps_u : ToC 115 opsR opsM cell1 := by
 rintro cs x w ⟨a, b, rfl, l1, l2, f⟩ c;refine (toOpS_rep a x b w f c).mono ?_;rintro e w' ⟨v, rfl, d⟩;exact ⟨[v], rfl, d⟩
theorem eqOps_u : EqC 135 opsR opsM cell1 := by
 rintro cs ds x w ⟨a, c, rfl, l1, l2, g⟩ ⟨b, d, rfl, k1, k2, f⟩ hm;exact eqOpS_rep a b x c d w g f (by have : lot = 4398046511104 := rfl; omega)
theorem mkOps_u : MkC 87 opsR opsM cell1 := by
 intro S cs x k w h a hm hb;obtain ⟨v, rfl⟩ := own_cell h;have e : lot = 4398046511104 := rfl;have e2 : opsM.cV x = slcnt opM x := rfl;exact markOpS_rep S v k x w a (by omega) (by omega) h
theorem szWay_u : SzC 110 wayR wayM aggV := by
 intro cs x b w h i d;obtain ⟨a, c, rfl, i1, i2, g, f, l3⟩ := way_rd h;exact szWay_rep x.1 x.2.1 x.2.2 a c b w i d (Nat.le_trans g f)
theorem toWay_u : ToC 116 wayR wayM aggV := by
 intro cs x w h hm;obtain ⟨a, b, rfl, c, d, l1, l2, g⟩ := way_rd h;refine (toWay_rep x.1 x.2.1 x.2.2 a b w c d g (by have : wayM.bk x = 0 + (0 + intsM.bk x.2.2) := rfl; omega)).mono ?_;rintro e w' ⟨av, cv, rfl, f⟩;exact ⟨_, rfl, f⟩
theorem eqWay_u : EqC 136 wayR wayM aggV := by
 intro cs ds x w h k hm;obtain ⟨a, c, rfl, i1, i2, l1, l2, g⟩ := way_rd h;obtain ⟨b, f, rfl, _, _, k1, k2, d⟩ := way_rd k;exact eqWay_rep x.1 x.2.1 x.2.2 a b c f w g d (by have : wayM.bk x = 0 + (0 + intsM.bk x.2.2) := rfl; have : lot = 4398046511104 := rfl; omega)
theorem szCache_u : SzC 108 cacheR cacheM aggV := by
 intro cs x c w h n g;obtain ⟨a, d, b, j, rfl, k, i, f, l, m, r2⟩ := cache_rd h;exact szCache_rep a b x d j c w m n g (Nat.le_trans k i) (Nat.le_trans f l)
theorem toCache_u : ToC 114 cacheR cacheM aggV := by
 intro cs x w h d;obtain ⟨a, c, b, j, rfl, l1, l2, m1, m2, f, i⟩ := cache_rd h;refine (toCache_rep a b x c j w f i d).mono ?_;rintro e w' ⟨av, cv, bv, dv, rfl, g⟩;exact ⟨_, rfl, g⟩
theorem eqCache_u : EqC 134 cacheR cacheM aggV := by
 intro cs ds x w h k hm;obtain ⟨a, d, b, o, rfl, l1, l2, m1, m2, g, l⟩ := cache_rd h;obtain ⟨m, c, i, f, rfl, _, _, _, _, j, n⟩ := cache_rd k;exact eqCache_rep x a b m i d o c f w g l j n (by have : lot = 4398046511104 := rfl; omega)
variable {α : Type}
def setCs (w : World) (g : Nat) : Nat → List Value → World
 | _, [] => w
 | o, v :: vs => setCs (w.setCell ⟨g, o, none⟩ v) g (o + 1) vs
def putA (cs : Array Value) : Nat → List Value → Array Value
 | _, [] => cs
 | o, v :: vs => putA (cs.setIfInBounds o v) (o + 1) vs
theorem row_setCs {g : Nat} {t : TypeId} : ∀ (vs : List Value) (o : Nat) {w : World} {cs : Array Value}, w.heap[g]? = some (.cells cs t (0, 0)) → (setCs w g o vs).heap[g]? = some (.cells (putA cs o vs) t (0, 0))
 | [], _, _, _, h => h
 | v :: vs, o, w, cs, h => row_setCs vs (o + 1) (heap_setCell_same w g o cs t v h)
theorem chg_setCs {g : Nat} : ∀ (vs : List Value) (o : Nat) (w : World), Chg (fun k => k = g) w (setCs w g o vs)
 | [], _, w => Chg.refl _ w
 | v :: vs, o, w => (show Chg (fun k => k = g) w (w.setCell ⟨g, o, none⟩ v) from ⟨rfl, rfl, rfl, by simp, fun k hk hn => heap_setCell_other w ⟨g, o, none⟩ k v hn⟩).trans (chg_setCs vs (o + 1) _)
theorem below_setCs {a w : World} {B g o : Nat} {vs : List Value} (h : Below B a w) (hB : B ≤ w.heap.size) (hg : B ≤ g) : Below B a (setCs w g o vs) :=
 (chg_setCs vs o w).below h (fun k hk => by have : k = g := hk; omega) hB
theorem below_setCs0 {a w : World} {g o : Nat} {vs : List Value} (h : Below a.heap.size a w) (hg : a.heap.size ≤ g) : Below a.heap.size a (setCs w g o vs) := below_setCs h h.size hg
theorem own_setCs {R : Rep α} {w : World} {S : Foot} {cs : List Value} {x : α} {g o : Nat} {vs : List Value} (h : R.own w S cs x) (hg : ¬ S g) : R.own (setCs w g o vs) S cs x :=
 own_chg h (chg_setCs vs o w) fun k hk e => by have a : k = g := e; subst a; exact hg hk
end Go.Proofs.YtcocbafhcpdheaaGreatDoor
