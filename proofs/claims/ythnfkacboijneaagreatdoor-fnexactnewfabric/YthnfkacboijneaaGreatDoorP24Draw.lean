import Derived.Test.YthnfkacboijneaaGreatDoorP01Lists
import Derived.Test.YthnfkacboijneaaGreatDoorP03Nums
import Derived.Deep.RegionWith
import Derived.BigRegion
import Derived.Test.YthnfkacboijneaaGreatDoorP05Boxes
import Derived.Test.YthnfkacboijneaaGreatDoorP09OpL
import Derived.LoopN
import Derived.Test.YthnfkacboijneaaGreatDoorP20Ways2
import Derived.Test.YthnfkacboijneaaGreatDoorP23StoreEnd
namespace Go.Proofs.YthnfkacboijneaaGreatDoor
open Go.ChangeShapes Go.WideShapes Go.ChangeAt Go.RowKit
set_option linter.unusedVariables false
variable {α : Type}
theorem chg_set {w : World} {g i : Nat} {v : Value} : Chg (fun b => b = g) w (w.setCell ⟨g, i, none⟩ v) := ⟨rfl, rfl, rfl, by simp, fun j _ hj => heap_setCell_other w ⟨g, i, none⟩ j v hj⟩
variable {α : Type}
def At (w : World) (t : TypeId) (G off : Nat) (cs : List Value) : Prop := ∃ cur, w.heap[G]? = some (.cells cur t (0, 0)) ∧ off + cs.length ≤ cur.size ∧ ∀ j, j < cs.length → cur[off + j]? = cs[j]?
theorem at_lt {w : World} {t : TypeId} {G off : Nat} {cs : List Value} (h : At w t G off cs) : G < w.heap.size := by
 obtain ⟨cur, h1, _⟩ := h
 exact (Array.getElem?_eq_some_iff.1 h1).1
theorem at_cell {w : World} {t : TypeId} {G off : Nat} {cs : List Value} (h : At w t G off cs) (j : Nat) {v : Value} (hv : cs[j]? = some v) : w.cell? ⟨G, off + j, none⟩ = some v := by
 obtain ⟨cur, h1, _, h3⟩ := h
 rw [cell_of_row w G _ cur t (0, 0) h1, h3 j (List.getElem?_eq_some_iff.1 hv).1]
 exact hv
theorem at_cell0 {w : World} {t : TypeId} {G : Nat} {off : Nat} {cs : List Value} {v : Value} (h : At w t G off (v :: cs)) : w.cell? ⟨G, off, none⟩ = some v := at_cell h 0 rfl
theorem at_froz {w : World} {t : TypeId} {G off : Nat} {cs : List Value} (h : At w t G off cs) (j : Nat) : w.frozen? ⟨G, off + j, none⟩ = false := by
 obtain ⟨cur, h1, _⟩ := h
 exact frozen_of_row w G _ _ t h1
theorem at_froz0 {w : World} {t : TypeId} {G off : Nat} {cs : List Value} (h : At w t G off cs) : w.frozen? ⟨G, off, none⟩ = false := at_froz h 0
theorem at_keep {w w' : World} {t : TypeId} {G off : Nat} {cs : List Value} (h : At w t G off cs) (hk : w'.heap[G]? = w.heap[G]?) : At w' t G off cs := by
 obtain ⟨cur, h1, h2⟩ := h
 exact ⟨cur, hk.trans h1, h2⟩
theorem at_chg {w w' : World} {t : TypeId} {G off : Nat} {cs : List Value} {S : Foot} (h : At w t G off cs) (hc : Chg S w w') (hn : ¬ S G) : At w' t G off cs := at_keep h (hc.block G (at_lt h) hn)
theorem at_set {w : World} {t : TypeId} {G off : Nat} {cs cs' : List Value} (h : At w t G off cs) (j : Nat) (v : Value) (e : cs' = cs.set j v) : At (w.setCell ⟨G, off + j, none⟩ v) t G off cs' := by
 obtain ⟨cur, h1, h2, h3⟩ := h
 subst e
 refine ⟨_, heap_setCell_same w G (off + j) cur t v h1, by simpa using h2, fun i hi => ?_⟩
 rw [List.length_set] at hi
 by_cases hij : i = j
 ·subst hij
  rw [Array.getElem?_setIfInBounds_self_of_lt (by omega), List.getElem?_set_self hi]
 ·rw [Array.getElem?_setIfInBounds_ne (by omega), List.getElem?_set_ne (by omega)]
  exact h3 i hi
def In (G off n : Nat) (w w' : World) : Prop := ∀ cur t, w.heap[G]? = some (.cells cur t (0, 0)) → ∃ cur' : Array Value, w'.heap[G]? = some (.cells cur' t (0, 0)) ∧ cur'.size = cur.size ∧ ∀ i, i < off ∨ off + n ≤ i → cur'[i]? = cur[i]?
theorem In.refl (G off n : Nat) (w : World) : In G off n w w := fun cur t h => ⟨cur, h, rfl, fun _ _ => rfl⟩
theorem In.trans {G off n : Nat} {a b c : World} (h : In G off n a b) (k : In G off n b c) : In G off n a c := fun cur t hc => by
 obtain ⟨c1, e1, s1, q1⟩ := h cur t hc
 obtain ⟨c2, e2, s2, q2⟩ := k c1 t e1
 exact ⟨c2, e2, s2.trans s1, fun i hi => (q2 i hi).trans (q1 i hi)⟩
theorem In.same {G off n : Nat} {w w' : World} (h : w'.heap[G]? = w.heap[G]?) : In G off n w w' := fun cur t hc => ⟨cur, h.trans hc, rfl, fun _ _ => rfl⟩
theorem In.set {G off n j : Nat} {w : World} {v : Value} (hj : j < n) : In G off n w (w.setCell ⟨G, off + j, none⟩ v) := fun cur t hc =>
 ⟨_, heap_setCell_same w G (off + j) cur t v hc, by simp, fun i hi => Array.getElem?_setIfInBounds_ne (by omega)⟩
theorem In.mono {G off n off' n' : Nat} {w w' : World} (h : In G off n w w') (h1 : off' ≤ off) (h2 : off + n ≤ off' + n') : In G off' n' w w' := fun cur t hc => by
 obtain ⟨c1, e1, s1, q1⟩ := h cur t hc
 exact ⟨c1, e1, s1, fun i hi => q1 i (by omega)⟩
structure Obj1 (R : Rep α) (t : TypeId) (w : World) (G off : Nat) (S : Foot) (cs : List Value) (x : α) : Prop where
 lies : At w t G off cs
 own : R.own w S cs x
 out : ¬ S G
structure Turn (G off n : Nat) (S : Foot) (w w' : World) : Prop where
 chg : Chg (fun k => S k ∨ k = G) w w'
 row : In G off n w w'
theorem Turn.refl (G off n : Nat) (S : Foot) (w : World) : Turn G off n S w w := ⟨Chg.refl _ _, In.refl _ _ _ _⟩
theorem Turn.mono {G off n : Nat} {S T : Foot} {w w' : World} (h : Turn G off n S w w') (hs : Sub S T) : Turn G off n T w w' := ⟨h.chg.mono (fun k hk => hk.imp (hs k) id), h.row⟩
theorem Turn.trans {G off n : Nat} {S S' : Foot} {a b c : World} (h : Turn G off n S a b) (k : Turn G off n S' b c) (hS : ∀ k, S' k → S k ∨ (a.heap.size ≤ k)) : Turn G off n S a c := by
 refine ⟨⟨k.chg.os.trans h.chg.os, k.chg.tape.trans h.chg.tape, k.chg.output.trans h.chg.output, Nat.le_trans h.chg.size k.chg.size, fun j hj hn => ?_⟩, h.row.trans k.row⟩
 have hb := h.chg.size
 refine (k.chg.block j (by omega) (fun hx => ?_)).trans (h.chg.block j hj hn)
 rcases hx with hx | hx
 ·rcases hS j hx with h1 | h1
  ·exact hn (.inl h1)
  ·omega
 ·exact hn (.inr hx)
theorem turn_set {G off n j : Nat} {S : Foot} {w : World} {v : Value} (hj : j < n) : Turn G off n S w (w.setCell ⟨G, off + j, none⟩ v) :=
 ⟨⟨rfl, rfl, rfl, by simp, fun k _ hn => heap_setCell_other w ⟨G, off + j, none⟩ k v (fun e => hn (.inr e))⟩, In.set hj⟩
theorem turn_chg {G off n : Nat} {S : Foot} {w w' : World} (h : Chg S w w') (hg : ¬ S G) (hl : G < w.heap.size) : Turn G off n S w w' := ⟨h.mono (fun _ hk => .inl hk), In.same (h.block G hl hg)⟩
theorem elem_focus {e : TypeId} {R : Rep α} {w : World} {S : Foot} {v : Value} {xs : List α} {j : Nat} {x : α} (h : (slR e R).own w S [v] xs) (hx : xs[j]? = some x) :
    ∃ g cap Sj T c, v = .slice (some ⟨g, 0, none⟩) xs.length cap ∧ S g ∧ Obj1 R e w g (j * R.size) Sj c x ∧ Sub Sj S ∧ Sub T S ∧ Dis Sj T ∧ ¬ T g ∧
     ∀ w' c' x' U V, Obj1 R e w' g (j * R.size) U c' x' → In g (j * R.size) R.size w w' → Keeps T w w' → Dis U T → V g → Sub U V → Sub T V → (slR e R).own w' V [v] (xs.set j x') := by
 obtain ⟨g, cap, cur, Sj, T, c, hv, hSg, hg, hc, hcl, ho, s1, s2, hd, n1, n2, back⟩ := slown_focus h hx
 have hsz : j * R.size + R.size ≤ cur.size ∨ R.size = 0 := by
  by_cases h0 : R.size = 0
  ·exact .inr h0
  ·left
   have h1 := hc (R.size - 1) (by omega)
   have h2 : (R.size - 1) < c.length := by omega
   rw [List.getElem?_eq_getElem h2] at h1
   have := (Array.getElem?_eq_some_iff.1 h1).1
   omega
 have hle : j * R.size + R.size ≤ cur.size := by
  rcases hsz with h1 | h0
  ·exact h1
  ·rw [h0]; simp
 refine ⟨g, cap, Sj, T, c, hv, hSg, ⟨⟨cur, hg, by omega, fun i hi => hc i (by omega)⟩, ho, n1⟩, s1, s2, hd, n2, ?_⟩
 intro w' c' x' U V ob hin hk hd2 hV hU hT
 obtain ⟨cur', e1, e2, e3⟩ := hin cur e hg
 obtain ⟨cur2, f1, f2, f3⟩ := ob.lies
 have hcc : cur2 = cur' := by rw [e1] at f1; simp at f1; exact f1.symm
 subst hcc
 have hcl' := R.rd_len (R.own_rd ob.own)
 exact back w' cur2 c' x' U V e1 e2 (fun i hi => e3 i (by omega)) (fun i hi => f3 i (by omega)) hk ob.own hd2 ob.out hV hU hT
theorem elem_set {e : TypeId} {R : Rep α} {w : World} {S : Foot} {g n cap : Nat} {xs : List α} {j i : Nat} {x x' : α} {v : Value} (h : (slR e R).own w S [.slice (some ⟨g, 0, none⟩) n cap] xs) (hx : xs[j]? = some x) (hi : i < R.size) (hc : ∀ c, R.rd w c x → (∀ W T, R.own W T c x → R.own W T (c.set i v) x')) :
    (slR e R).own (w.setCell ⟨g, j * R.size + i, none⟩ v) S [.slice (some ⟨g, 0, none⟩) n cap] (xs.set j x') := by
 obtain ⟨g1, cap1, Sj, T, c1, hv, hSg, ob, s1, s2, hd, n2, back⟩ := elem_focus h hx
 simp only [Value.slice.injEq, Option.some.injEq, Addr.mk.injEq, and_true] at hv
 obtain ⟨rfl, -, rfl⟩ := hv
 have hk : ∀ F : Foot, ¬ F g → Keeps F w (w.setCell ⟨g, j * R.size + i, none⟩ v) := fun F hF k hk _ => heap_setCell_other w ⟨g, j * R.size + i, none⟩ k v (fun e => hF (by have e' : k = g := e; rw [← e']; exact hk))
 exact back _ (c1.set i v) x' Sj S ⟨at_set ob.lies i v rfl, hc c1 (R.own_rd ob.own) _ _ (R.own_keep ob.own (hk Sj ob.out)), ob.out⟩ (In.set hi) (hk T n2) hd hSg s1 s2
theorem op_own4 {w : World} {S : Foot} {c : List Value} {u : OpD} (h : opR.own w S c u) : c = [.int .i64 u.1, .int .i64 u.2.1, .int .i64 u.2.2.1, .int .i64 u.2.2.2] ∧ In4 u := op_rd (opR.own_rd h)
theorem op_set0 {w : World} {c : List Value} {x : OpD} {y : Int} (hy : In64 y) (hr : opR.rd w c x) : ∀ W T, opR.own W T c x → opR.own W T (c.set 0 (.int .i64 y)) (y, x.2) := by
 intro W T ho
 obtain ⟨rfl, h⟩ := op_own4 ho
 exact own_op (u := (y, x.2)) ⟨hy, h.2.1, h.2.2.1, h.2.2.2⟩
theorem op_set1 {w : World} {c : List Value} {x : OpD} {y : Int} (hy : In64 y) (hr : opR.rd w c x) : ∀ W T, opR.own W T c x → opR.own W T (c.set 1 (.int .i64 y)) (x.1, y, x.2.2) := by
 intro W T ho
 obtain ⟨rfl, h⟩ := op_own4 ho
 exact own_op (u := (x.1, y, x.2.2)) ⟨h.1, hy, h.2.2.1, h.2.2.2⟩
theorem op_set2 {w : World} {c : List Value} {x : OpD} {y : Int} (hy : In64 y) (hr : opR.rd w c x) : ∀ W T, opR.own W T c x → opR.own W T (c.set 2 (.int .i64 y)) (x.1, x.2.1, y, x.2.2.2) := by
 intro W T ho
 obtain ⟨rfl, h⟩ := op_own4 ho
 exact own_op (u := (x.1, x.2.1, y, x.2.2.2)) ⟨h.1, h.2.1, hy, h.2.2.2⟩
theorem op_set3 {w : World} {c : List Value} {x : OpD} {y : Int} (hy : In64 y) (hr : opR.rd w c x) : ∀ W T, opR.own W T c x → opR.own W T (c.set 3 (.int .i64 y)) (x.1, x.2.1, x.2.2.1, y) := by
 intro W T ho
 obtain ⟨rfl, h⟩ := op_own4 ho
 exact own_op (u := (x.1, x.2.1, x.2.2.1, y)) ⟨h.1, h.2.1, h.2.2.1, hy⟩
theorem in64_k {k : Int} (h0 : 0 ≤ k) (h1 : k ≤ 1152921504606846976) : In64 k := by constructor <;> omega
theorem get_set {α : Type} {xs : List α} {j : Nat} {x a : α} (h : xs[j]? = some x) : (xs.set j a)[j]? = some a := by
 rw [List.getElem?_set_self (List.getElem?_eq_some_iff.1 h).1]
theorem markOpS_nil (k : Int) (w : World) :
    Calls Tryz.prog 67 #[.slice none 0 0, .int .i64 k] w fun e' w' => e' = .returned (.int .i64 k) ∧ w' = w := by
 go_enter Tryz.func67, Tryz.ntmps67
 go_wp2
 refine wp_loop_rounds 1 ?_
 rw [rounds_succ]
 go_wp2
 go_ret
 exact ⟨rfl, rfl⟩
theorem markOp_round {S : Foot} {G n cap j : Nat} {w : World} {xs : List OpD} {x : OpD} {kk : Int} (h0 : 0 ≤ kk) (h1 : kk ≤ 1152921504606846970) (h : opsR.own w S [.slice (some ⟨G, 0, none⟩) n cap] xs) (hx : xs[j]? = some x) :
    opsR.own ((((w.setCell ⟨G, j * 4, none⟩ (.int .i64 kk)).setCell ⟨G, j * 4 + 1, none⟩ (.int .i64 (kk + 1))).setCell ⟨G, j * 4 + 2, none⟩ (.int .i64 (kk + 1 + 1))).setCell ⟨G, j * 4 + 3, none⟩ (.int .i64 (kk + 1 + 1 + 1))) S [.slice (some ⟨G, 0, none⟩) n cap] (xs.set j (kk, kk + 1, kk + 1 + 1, kk + 1 + 1 + 1)) ∧
    Chg (fun k => k = G) w ((((w.setCell ⟨G, j * 4, none⟩ (.int .i64 kk)).setCell ⟨G, j * 4 + 1, none⟩ (.int .i64 (kk + 1))).setCell ⟨G, j * 4 + 2, none⟩ (.int .i64 (kk + 1 + 1))).setCell ⟨G, j * 4 + 3, none⟩ (.int .i64 (kk + 1 + 1 + 1))) := by
 have a1 := elem_set (i := 0) (v := .int .i64 kk) h hx (by decide) (fun c hr => op_set0 (in64_k (by omega) (by omega)) hr)
 have a2 := elem_set (i := 1) (v := .int .i64 (kk + 1)) a1 (get_set hx) (by decide) (fun c hr => op_set1 (in64_k (by omega) (by omega)) hr)
 rw [List.set_set] at a2
 have a3 := elem_set (i := 2) (v := .int .i64 (kk + 1 + 1)) a2 (get_set hx) (by decide) (fun c hr => op_set2 (in64_k (by omega) (by omega)) hr)
 rw [List.set_set] at a3
 have a4 := elem_set (i := 3) (v := .int .i64 (kk + 1 + 1 + 1)) a3 (get_set hx) (by decide) (fun c hr => op_set3 (in64_k (by omega) (by omega)) hr)
 rw [List.set_set] at a4
 exact ⟨a4, ((chg_set.trans chg_set).trans chg_set).trans chg_set⟩
set_option maxHeartbeats 2000000 in
theorem markOpS_rep (S : Foot) (v : Value) (k : Int) (xs : List OpD) (w : World) (h0 : 0 ≤ k) (h1 : k ≤ 288230376151711744) (hm : slcnt opM xs ≤ 288230376151711744) (h : opsR.own w S [v] xs) :
    Calls Tryz.prog 67 #[v, .int .i64 k] w fun e' w' => e' = .returned (.int .i64 (k + slcnt opM xs)) ∧ opsR.own w' S [v] (slmark opM k xs) ∧ Chg S w w' := by
 rcases slown_form h with ⟨rfl, rfl⟩ | ⟨G, cap, rfl, hG⟩
 ·exact (markOpS_nil k w).mono fun e w' ⟨e1, e2⟩ => ⟨by simpa [slcnt] using e1, by rw [e2]; exact h, by rw [e2]; exact Chg.refl _ _⟩
 have hcn := cnt_ops xs
 have H : Hid _ := h
 clear h
 go_enter Tryz.func67, Tryz.ntmps67
 go_wp2
 go_loopw [1, 5] (fun q i wr => ∃ j : Nat, j ≤ xs.length ∧ i = .int .i64 j ∧ q = .int .i64 (k + slcnt opM (xs.take j)) ∧ opsR.own wr S [.slice (some ⟨G, 0, none⟩) xs.length cap] (pmark opM k xs j) ∧ Chg S w wr) (fun _ i _ => xs.length - (intOf i).toNat)
 case atStart => exact ⟨0, Nat.zero_le _, rfl, by simp [slcnt], by rw [pmark_zero]; exact H.out, Chg.refl _ _⟩
 case round =>
  obtain ⟨j, hj, rfl, rfl, ho, hs⟩ := hrel
  by_cases hlt : j < xs.length
  ·have hlt' : (j : Int) < (xs.length : Int) := by omega
   obtain ⟨x, hx⟩ : ∃ x, xs[j]? = some x := ⟨_, List.getElem?_eq_getElem hlt⟩
   have HT : Hid (slcnt opM (xs.take (j + 1)) = slcnt opM (xs.take j) + 4) := slcnt_step (M := opM) hx
   have hT : slcnt opM (xs.take j) + 4 ≤ slcnt opM xs := slcnt_get (M := opM) hx
   have HPS := pmark_step (M := opM) (k := k) hx
   obtain ⟨G1, cap1, Sj, Tj, cj, hv, -, ob, -⟩ := elem_focus ho (pmark_at hx)
   simp only [Value.slice.injEq, Option.some.injEq, Addr.mk.injEq, and_true] at hv
   obtain ⟨rfl, -, rfl⟩ := hv
   obtain ⟨rfl, -⟩ := op_own4 ob.own
   have y0 := at_cell0 ob.lies
   have y1 := at_cell ob.lies 1 rfl
   have y2 := at_cell ob.lies 2 rfl
   have y3 := at_cell ob.lies 3 rfl
   have t0 := at_froz0 ob.lies
   have t1 := at_froz ob.lies 1
   have t2 := at_froz ob.lies 2
   have t3 := at_froz ob.lies 3
   rw [show j * opR.size = j * 4 from rfl] at y0 y1 y2 y3 t0 t1 t2 t3
   generalize hkk : k + (slcnt opM (xs.take j) : Int) = kk at HPS ⊢
   have hk0 : 0 ≤ kk ∧ kk ≤ 576460752303423488 := by omega
   obtain ⟨O2, C2⟩ := markOp_round (kk := kk) hk0.1 (by omega) ho (pmark_at hx)
   rw [show (kk, kk + 1, kk + 1 + 1, kk + 1 + 1 + 1) = opM.mE kk x from rfl, HPS] at O2
   have HF : Hid _ := And.intro O2 (hs.trans (C2.mono (fun b hb => by rw [hb]; exact hG)))
   clear O2 C2 ob ho hs HPS hx
   generalize slcnt opM (xs.take j) = TT at HT hT hkk
   go_wp2
   go_roundw
   case rel => exact ⟨j + 1, by omega, by go_num, by rw [HT.out]; congr 1; omega, HF.out.1, HF.out.2⟩
   case measure => simp [intOf]; omega
  ·have hjn : j = xs.length := by omega
   subst hjn
   rw [List.take_length]
   rw [pmark_all] at ho
   have HF : Hid _ := And.intro ho hs
   clear ho hs
   go_wp2
   go_ret
   exact ⟨rfl, HF.out.1, HF.out.2⟩
set_option maxHeartbeats 2000000 in
theorem heldOpS_rep (a : Option Addr) (cap : Nat) (k : Int) (xs : List OpD) (w : World) (h0 : 0 ≤ k) (h1 : k ≤ 288230376151711744) (hm : slcnt opM xs ≤ 288230376151711744) (h : SlRd opR w a (slmark opM k xs)) :
    Calls Tryz.prog 147 #[.slice a xs.length cap, .int .i64 k] w fun e' w' => e' = .returned (.int .i64 (k + slcnt opM xs)) ∧ w' = w := by
 have hln := cnt_ops xs
 go_enter Tryz.func147, Tryz.ntmps147
 go_wp2
 go_loop [1, 5] (fun q i => ∃ j : Nat, j ≤ xs.length ∧ i = .int .i64 j ∧ q = .int .i64 (k + slcnt opM (xs.take j))) (fun _ i => xs.length - (intOf i).toNat)
 case atStart => exact ⟨0, Nat.zero_le _, rfl, by simp [slcnt]⟩
 case round =>
  obtain ⟨j, hj, rfl, rfl⟩ := hrel
  by_cases hlt : j < xs.length
  ·have hlt' : (j : Int) < (xs.length : Int) := by omega
   obtain ⟨x, hx⟩ : ∃ x, xs[j]? = some x := ⟨_, List.getElem?_eq_getElem hlt⟩
   obtain ⟨b, off, rfl, x0, x1, x2, x3, -⟩ := op_at h (slmark_at (M := opM) (k := k) hx)
   have y0 : w.cell? ⟨b, off + j * 4, none⟩ = some (.int .i64 (k + slcnt opM (xs.take j))) := x0
   have y1 : w.cell? ⟨b, off + j * 4 + 1, none⟩ = some (.int .i64 (k + slcnt opM (xs.take j) + 1)) := x1
   have y2 : w.cell? ⟨b, off + j * 4 + 2, none⟩ = some (.int .i64 (k + slcnt opM (xs.take j) + 1 + 1)) := x2
   have y3 : w.cell? ⟨b, off + j * 4 + 3, none⟩ = some (.int .i64 (k + slcnt opM (xs.take j) + 1 + 1 + 1)) := x3
   have HT : Hid (slcnt opM (xs.take (j + 1)) = slcnt opM (xs.take j) + 4) := slcnt_step (M := opM) hx
   have hT : slcnt opM (xs.take j) + 4 ≤ slcnt opM xs := slcnt_get (M := opM) hx
   clear hx h x0 x1 x2 x3
   generalize hkk : k + (slcnt opM (xs.take j) : Int) = kk at y0 y1 y2 y3 ⊢
   generalize slcnt opM (xs.take j) = TT at HT hT hkk
   have hk0 : 0 ≤ kk ∧ kk ≤ 576460752303423488 := by omega
   go_wp2
   go_round
   case rel => exact ⟨j + 1, by omega, by go_num, by rw [HT.out]; congr 1; omega⟩
   case measure => simp [intOf]; omega
  ·have hjn : j = xs.length := by omega
   subst hjn
   rw [List.take_length]
   go_wp2
   go_ret
   exact ⟨rfl, rfl⟩
theorem toOps_u : ToC 59 opsR opsM cell1 := by
 rintro cs x w ⟨a, cap, rfl, l1, l2, l3⟩ hm
 refine (toOpS_rep a x cap w l3 hm).mono ?_
 rintro e w' ⟨v, rfl, mm⟩
 exact ⟨[v], rfl, mm⟩
theorem eqOps_u : EqC 65 opsR opsM cell1 := by
 rintro cs ds x w ⟨a, cap, rfl, l1, l2, l3⟩ ⟨b, cp, rfl, k1, k2, k3⟩ hm
 exact eqOpS_rep a b x cap cp w l3 k3 (by have : lot = 4398046511104 := rfl; omega)
theorem mkOps_u : MkC 67 opsR opsM cell1 := by
 intro S cs x k w h h0 hm hb
 obtain ⟨v, rfl⟩ := own_cell h
 have e : lot = 4398046511104 := rfl
 have e2 : opsM.cV x = slcnt opM x := rfl
 exact markOpS_rep S v k x w h0 (by omega) (by omega) h
theorem hdOps_u : HdC 147 opsR opsM cell1 := by
 rintro cs x k w ⟨a, cap, rfl, l1, l2, l3⟩ h0 hm hb
 have e : lot = 4398046511104 := rfl
 have e2 : opsM.cV x = slcnt opM x := rfl
 have := heldOpS_rep a cap k x w h0 (by omega) (by omega) l3
 rw [show x.length = (opsM.mV k x).length from (slmark_len _ _ _).symm] at this
 exact this.mono fun e w' ⟨q, r⟩ => ⟨q, be_eq r⟩
theorem toWay_u : ToC 156 wayR wayM aggV := by
 intro cs x w h hm
 obtain ⟨a, cap, rfl, i1, i2, l1, l2, l3⟩ := way_rd h
 refine (toWay_rep x.1 x.2.1 x.2.2 a cap w i1 i2 l3 (by have : wayM.bk x = 0 + (0 + intsM.bk x.2.2) := rfl; omega)).mono ?_
 rintro e w' ⟨av, cv, rfl, mm⟩
 exact ⟨_, rfl, mm⟩
theorem eqWay_u : EqC 193 wayR wayM aggV := by
 intro cs ds x w h k hm
 obtain ⟨a, cap, rfl, i1, i2, l1, l2, l3⟩ := way_rd h
 obtain ⟨b, cp, rfl, _, _, k1, k2, k3⟩ := way_rd k
 exact eqWay_rep x.1 x.2.1 x.2.2 a b cap cp w l3 k3 (by have : wayM.bk x = 0 + (0 + intsM.bk x.2.2) := rfl; have : lot = 4398046511104 := rfl; omega)
theorem toCache_u : ToC 155 cacheR cacheM aggV := by
 intro cs x w h hm
 obtain ⟨a, cap, b, cp, rfl, l1, l2, m1, m2, r1, r2⟩ := cache_rd h
 refine (toCache_rep a b x cap cp w r1 r2 hm).mono ?_
 rintro e w' ⟨av, cv, bv, dv, rfl, mm⟩
 exact ⟨_, rfl, mm⟩
theorem eqCache_u : EqC 192 cacheR cacheM aggV := by
 intro cs ds x w h k hm
 obtain ⟨a, cap, b, cp, rfl, l1, l2, m1, m2, r1, r2⟩ := cache_rd h
 obtain ⟨a', cap', b', cp', rfl, _, _, _, _, t1, t2⟩ := cache_rd k
 exact eqCache_rep x a b a' b' cap cp cap' cp' w r1 r2 t1 t2 (by have : lot = 4398046511104 := rfl; omega)
end Go.Proofs.YthnfkacboijneaaGreatDoor
