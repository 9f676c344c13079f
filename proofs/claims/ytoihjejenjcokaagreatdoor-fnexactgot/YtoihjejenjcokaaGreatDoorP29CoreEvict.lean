import Derived.Test.YtoihjejenjcokaaGreatDoorP00Box
import Derived.Test.YtoihjejenjcokaaGreatDoorP28CoreDid
import Derived.Test.YtoihjejenjcokaaGreatDoorP18SpecCopy
import Derived.BigRegion
import Derived.Deep.DeepCutAuto
import Derived.Test.YtoihjejenjcokaaGreatDoorP24FillImpl
import Derived.Test.YtoihjejenjcokaaGreatDoorP06MapsV
namespace Go.Proofs.YtoihjejenjcokaaGreatDoor
open Go.ChangeShapes Go.WideShapes Go.ChangeAt Go.RowKit
set_option linter.unusedVariables false
theorem zNA (a b c : Value) (W : World) : (Instr.field 39 (.agg #[a, b, c]) 2).run Tryz.prog W = .ok c W := by kernel_rfl
theorem zA0 (w : World) (g o : Nat) (v : Value) (vs : List Value) : zAo w g o (v :: vs) = zAo (w.setCell ⟨g, o, none⟩ v) g (o + 1) vs := rfl
theorem zA3 (w : World) (g o : Nat) : zAo w g o [] = w := rfl
theorem zBj {W : World} {k : Nat} {o : Obj} (h : W.heap[k]? = some o) : W.drew.heap[k]? = some o := h
theorem zBA (w : World) (S : zAX) : zA5.own w S [.slice none 0 0] [] := ⟨_, [], fun _ => False, rfl, World.ownsRow_nil _ _ _ _, fun g hg => by simp [Value.ownBlock] at hg, fun _ h => h.elim, rfl⟩
noncomputable def zJI (id k : Int) (u : zAU) (left : Int) : zB5 := msg 2 id 4 (if 2 ≤ u.2.1 then 8 else 9) k (if 2 ≤ u.2.1 then u.2.2 else []) (if left = 0 then 1 else 0)
def asW (u : zAU) (s : Int) : zAU := if s = 0 then zAA else (u.1, s, u.2.2)
def nxt (s e : Int) : Int := (zGb s e).getD s
noncomputable def inC (x : zAE) (k e : Int) : zAE := (zDZ x.1 k (asW (zAD x.1 k) (nxt (zAD x.1 k).2.1 e)), x.2)
noncomputable def inM (x : zAE) (id k e : Int) : zB5 := zJI id k (zAD x.1 k) (nxt (zAD x.1 k).2.1 e)
def zMk (u : zAU) (e : Int) : zAU := if 2 ≤ u.2.1 ∨ e = 4 then (u.1, 0, []) else u
noncomputable def inH (x : zAE) (e : Int) : zAE := (x.1, x.2.1, x.2.2.1, x.2.2.2.1, zMk x.2.2.2.2.1 e, x.2.2.2.2.2)
noncomputable def inHM (x : zAE) (id e : Int) : zB5 := zJI id x.2.2.2.2.1.1 x.2.2.2.2.1 (zMk x.2.2.2.2.1 e).2.1
theorem zLs : ∀ e : Int, (e = 3 ∨ e = 4) → nxt 0 e = 0 ∧ nxt 1 3 = 1 ∧ nxt 2 3 = 1 ∧ nxt 3 3 = 1 ∧ nxt 1 4 = 0 ∧ nxt 2 4 = 0 ∧ nxt 3 4 = 0 := by
 rintro e (rfl | rfl) <;> decide
theorem set_same {c : zAu} (h : okc c) {k : Int} {j : Nat} (ha : atC c k = some j) : zDZ c k (zAD c k) = c := by
 obtain ⟨h0, hu, he, hf⟩ := zFv h ha
 unfold zDZ
 rw [ha]
 have e1 : (zAm c k).set j (zAD c k) = zAm c k := by
  obtain ⟨hj, hv⟩ := List.getElem?_eq_some_iff.1 hu
  rw [← hv]; exact List.set_getElem_self hj
 have e2 : c.1.set (zAF c k) (zAm c k) = c.1 := by
  obtain ⟨hs, hv⟩ := List.getElem?_eq_some_iff.1 (zDy h k).2.1
  conv => lhs; rw [← hv]
  exact List.set_getElem_self hs
 show ((c.1.set (zAF c k) ((zAm c k).set j (zAD c k)), c.2) : zAu) = c
 rw [e1, e2]
theorem zGY {c : zAu} (k : Int) : zDZ c k zAA = zCY c k := by
 unfold zDZ zCY
 cases atC c k <;> rfl
theorem zKB {x : zAE} {id k : Int} {m : zB5} (h : zAZ x = true) (hb : zAQ k 0 15 = true) (hl : zAt m = k) (hm : zBm m = 6 ∨ zBm m = 7) (hh : x.2.2.2.2.1.1 ≠ k) :
    zAI (toS x) id m = (toS (inC x k (zBm m - 3)), inM x id k (zBm m - 3)) := by
 have hP := zB4 h
 have hok : okc x.1 := hP.ok
 unfold zAI
 dsimp only
 rw [hl]
 unfold inC inM
 cases ha : atC x.1 k with
 | none =>
  have hw := zGr ha
  rw [hw]
  dsimp only
  rw [if_neg (by rintro ⟨-, q, -⟩; exact hh q)]
  have e0 : nxt (zAA : zAU).2.1 (zBm m - 3) = 0 := (zLs _ (by omega)).1
  rw [e0]
  have e1 : zDZ x.1 k (asW zAA 0) = x.1 := by unfold zDZ; rw [ha]
  rw [e1]
  rfl
 | some j =>
  obtain ⟨f0, f1, f2, f3, f4, f5, f6⟩ := zI9 hok ha
  have hs : (zAD x.1 k).2.1 = 1 ∨ (zAD x.1 k).2.1 = 2 ∨ (zAD x.1 k).2.1 = 3 := by omega
  have tb := zLs 3 (.inl rfl)
  dsimp only
  rcases hm with e6 | e7
  ·rw [e6, if_neg (by decide), show (6 : Int) - 3 = 3 from rfl]
   rcases hs with q | q | q
   ·rw [q, tb.2.1]
    have e1 : asW (zAD x.1 k) 1 = zAD x.1 k := by unfold asW; rw [if_neg (by decide), ← q]
    rw [e1, set_same hok ha]
    unfold zJI
    rw [q]
    rfl
   ·rw [q, tb.2.2.1]
    unfold zJI asW
    rw [q]
    rfl
   ·rw [q, tb.2.2.2.1]
    unfold zJI asW
    rw [q]
    rfl
  ·rw [e7, if_pos rfl, show (7 : Int) - 3 = 4 from rfl]
   have e0 : nxt (zAD x.1 k).2.1 4 = 0 := by rcases hs with q | q | q <;> rw [q] <;> decide
   rw [e0, show asW (zAD x.1 k) 0 = zAA from rfl, zGY]
   unfold zJI
   rfl
theorem zMl {x : zAE} {id k : Int} {m : zB5} (h : zAZ x = true) (hb : zAQ k 0 15 = true) (hl : zAt m = k) (hm : zBm m = 6 ∨ zBm m = 7) (hh : x.2.2.2.2.1.1 = k) :
    zAI (toS x) id m = (toS (inH x (zBm m - 3)), inHM x id (zBm m - 3)) := by
 have hP := zB4 h
 have hk0 : 0 ≤ k ∧ k ≤ 15 := by simpa [zAQ] using hb
 have hp1 : (toS x).phase = 1 := by
  by_cases q : (toS x).phase = 1
  ·exact q
  ·have q2 := zDo hP q
   have q3 : x.2.2.2.2.1 = zAA := q2
   rw [q3] at hh
   have : (-1 : Int) = k := hh
   omega
 obtain ⟨g0, g1, g2⟩ := zCE hP hp1
 obtain ⟨c, p, at_, ph, ⟨l, s, d⟩, t⟩ := x
 have hp2 : ph = 1 := hp1
 have hl2 : l = k := hh
 subst hp2
 subst hl2
 have g2' : atC c l = none := g2
 unfold zAI inH inHM zMk zJI
 dsimp only
 rw [hl, g2']
 dsimp only
 by_cases s0 : s = 0
 ·subst s0
  have d0 : d = [] := by
   rcases g1 with q | q
   ·exact q.2
   ·have := zB0 q; simp only at this; omega
  subst d0
  rw [if_neg (by rintro ⟨-, -, q⟩; exact q rfl)]
  rcases hm with e | e <;> rw [e] <;> rfl
 ·rw [if_pos ⟨rfl, rfl, s0⟩]
  by_cases s2 : 2 ≤ s
  ·rw [if_pos s2, if_pos (.inl s2), if_pos s2, if_pos s2]
   rfl
  ·have s1 : s = 1 := by
     rcases g1 with q | q
     ·exact absurd q.1 s0
     ·have := zB0 q; simp only at this; omega
   subst s1
   rcases hm with e | e <;> rw [e] <;> rfl
theorem zGZ {x : zAE} {id : Int} {m : zB5} (hm : zBm m = 6 ∨ zBm m = 7) (hb : zAQ (zAt m) 0 15 = true) : zBO (toS x) id m = ((zAI (toS x) id m).1, [(zAI (toS x) id m).2], 1) := by
 unfold zBO
 rw [if_pos hm, if_pos hb]
theorem zNB {t n y : Int} (h : zAJ t n = true) (h0 : 0 ≤ y) (h1 : y < n) : zCU (zCU t n y) n y = zCU t n y := by
 simp only [zAJ, decide_eq_true_eq] at h
 rcases h with ⟨rfl, rfl⟩ | ⟨rfl, a, b⟩ | ⟨rfl, a, b⟩
 ·obtain rfl : y = 0 := by omega
  decide
 ·rcases (by omega : t = 0 ∨ t = 1) with rfl | rfl <;> rcases (by omega : y = 0 ∨ y = 1) with rfl | rfl <;> decide
 ·rcases (by omega : t = 0 ∨ t = 1 ∨ t = 2 ∨ t = 3 ∨ t = 4 ∨ t = 5 ∨ t = 6 ∨ t = 7) with rfl | rfl | rfl | rfl | rfl | rfl | rfl | rfl <;> rcases (by omega : y = 0 ∨ y = 1 ∨ y = 2 ∨ y = 3) with rfl | rfl | rfl | rfl <;> decide
theorem zMm {c : zAu} {u v : zAU} (h : okc c) (hu : zBi isL u = true) (hv : zBi isL v = true) (e : v.1 = u.1) (hf : (zB1 c u).2 = true) : okc (zB1 c u).1 ∧ zB1 (zB1 c u).1 v = zB1 c v := by
 cases hp : zB2 c u.1 with
 | none => rw [zDp h hp] at hf; cases hf
 | some i =>
  rw [zDW h hu hp]
  dsimp only
  obtain ⟨hok, y, hy, -⟩ := zIa (ln := isL) (tok := zAJ) (tou := zCU) zGN h hu hp
  refine ⟨hok, ?_⟩
  have hfd := zH7 (ln := isL) (tok := zAJ) (tou := zCU) zGN h hu hp
  have hat : atC (zCq zCU c u i) u.1 = some i := by
   unfold zEV at hfd
   rw [if_pos (zCK.2 hok)] at hfd
   split at hfd
   ·rename_i j hj
    rw [hj]
    simp only [Prod.mk.injEq] at hfd
    have := hfd.2
    congr 1
    omega
   ·simp only [Prod.mk.injEq] at hfd
    have := hfd.2
    omega
  have hp2 : zB2 (zCq zCU c u i) v.1 = some i := by unfold zB2; rw [e, hat]
  rw [zDW hok hv hp2, zDW h hv (by rw [e]; exact hp)]
  have h1 := h.1
  have hset : zAF (zCq zCU c u i) v.1 = zAF c u.1 := by unfold zAF zCq; simp only [List.length_set, e]
  have hset2 : zAF c v.1 = zAF c u.1 := by rw [e]
  have hrow : zAm (zCq zCU c u i) v.1 = (zAm c u.1).set i u := by
   rw [e]
   unfold zCq
   rw [zE5 h1, if_pos rfl]
  have hrow2 : zAm c v.1 = zAm c u.1 := by rw [e]
  obtain ⟨t1, t2, t3, t4, t5, t6, t7⟩ := zKi h u.1
  have htr : zBs (zCq zCU c u i) v.1 = zCU (zBs c u.1) (zAm c u.1).length i := by
   unfold zBs
   rw [hset]
   unfold zCq
   obtain ⟨q1, q2⟩ := List.getElem?_eq_some_iff.1 t2
   rw [List.getD_eq_getElem?_getD, List.getElem?_set, if_pos rfl, if_pos q1]
   rfl
  have htr2 : zBs c v.1 = zBs c u.1 := by rw [e]
  have hi := (List.getElem?_eq_some_iff.1 hy).1
  have e9 : zCq zCU (zCq zCU c u i) v i = zCq zCU c v i := by
   have lh : zCq zCU (zCq zCU c u i) v i = ((zCq zCU c u i).1.set (zAF (zCq zCU c u i) v.1) ((zAm (zCq zCU c u i) v.1).set i v), (zCq zCU c u i).2.set (zAF (zCq zCU c u i) v.1) (zCU (zBs (zCq zCU c u i) v.1) (zAm (zCq zCU c u i) v.1).length i)) := rfl
   have rh : zCq zCU c v i = (c.1.set (zAF c v.1) ((zAm c v.1).set i v), c.2.set (zAF c v.1) (zCU (zBs c v.1) (zAm c v.1).length i)) := rfl
   have e5 : zCU (zCU (zBs c u.1) (zAm c u.1).length i) ((zAm c u.1).set i u).length i = zCU (zBs c u.1) (zAm c u.1).length i := by
    rw [List.length_set]
    exact zNB (by rw [t1]; exact t3) (by omega) (by omega)
   rw [lh, rh, hset, hrow, htr, hset2, hrow2, htr2, e5, List.set_set]
   show (((c.1.set (zAF c u.1) ((zAm c u.1).set i u)).set (zAF c u.1) ((zAm c u.1).set i v), (c.2.set (zAF c u.1) (zCU (zBs c u.1) (zAm c u.1).length i)).set (zAF c u.1) (zCU (zBs c u.1) (zAm c u.1).length i)) : zAu) = _
   simp only [List.set_set]
  rw [e9]
noncomputable def zEZ (x : zAE) (u : zAU) : Bool := decide (x.2.2.2.1 = 2) && (decide (zBf (zBv (toS x)) = u.1) && decide (zCl u.2.1 (zCV (zBv (toS x))) = 0))
noncomputable def zDq (x : zAE) (u : zAU) : zAE := ((zB1 x.1 u).1, x.2.1, x.2.2.1, 0, x.2.2.2.2.1, x.2.2.2.2.2)
theorem zJ4 {x : zAE} {id : Int} {m : zB5} (h : zAZ x = true) (hm : zBm m = 11) (hw : zEZ x (zAt m, zB9 m, zBJ m) = false) : zBO (toS x) id m = (toS x, [], 0) := by
 unfold zBO
 rw [if_neg (by omega), if_neg (by omega), if_pos hm]
 by_cases q : (toS x).phase ≠ 2 ∨ zBf (zBv (toS x)) ≠ zAt m ∨ isL (zBJ m) = false ∨ zAQ (zB9 m) 1 3 = false
 ·rw [if_pos q]
 ·rw [if_neg q]
  have q1 : x.2.2.2.1 = 2 := by
   by_cases z : x.2.2.2.1 = 2
   ·exact z
   ·exact absurd (.inl z) q
  have q2 : zBf (zBv (toS x)) = zAt m := by
   by_cases z : zBf (zBv (toS x)) = zAt m
   ·exact z
   ·exact absurd (.inr (.inl z)) q
  unfold zEZ at hw
  rw [decide_eq_true q1, decide_eq_true q2] at hw
  have q3 : ¬ zCl (zB9 m) (zCV (zBv (toS x))) = 0 := by simpa using hw
  have q4 : doS (toS x) (zAt m, zB9 m, zBJ m) = none := by
   unfold doS
   dsimp only
   rw [if_neg q3]
  rw [q4]
theorem did_full {o : OpD} {u : zAU} (ho : zNw o = true) (hu : zBi isL u = true) : zBi isL (zHh o u) = true := by
 obtain ⟨f1, f2, f3⟩ := zB0 hu
 unfold zHh
 simp only [zBi, decide_eq_true_eq]
 refine ⟨f1, ?_, zGR ho f3⟩
 split <;> omega
theorem zHx {x : zAE} {id : Int} {m : zB5} (h : zAZ x = true) (hm : zBm m = 11) (hw : zEZ x (zAt m, zB9 m, zBJ m) = true) (hf : (zB1 x.1 (zAt m, zB9 m, zBJ m)).2 = false) : zBO (toS x) id m = (toS x, [], 0) := by
 have hP := zB4 h
 have hok : okc x.1 := hP.ok
 unfold zEZ at hw
 simp only [Bool.and_eq_true, decide_eq_true_eq] at hw
 obtain ⟨w1, w2, w3⟩ := hw
 have h1 : x.2.2.1 < (x.2.1.length : Int) := hP.wait w1
 have ho := hP.ops _ (zEa hP.at0 h1)
 unfold zBO
 rw [if_neg (by omega), if_neg (by omega), if_pos hm]
 by_cases q : (toS x).phase ≠ 2 ∨ zBf (zBv (toS x)) ≠ zAt m ∨ isL (zBJ m) = false ∨ zAQ (zB9 m) 1 3 = false
 ·rw [if_pos q]
 ·rw [if_neg q]
  have q3 : isL (zBJ m) = true := by
   cases z : isL (zBJ m)
   ·exact absurd (.inr (.inr (.inl z))) q
   ·rfl
  have q4 : zAQ (zB9 m) 1 3 = true := by
   cases z : zAQ (zB9 m) 1 3
   ·exact absurd (.inr (.inr (.inr z))) q
   ·rfl
  have hln := zGQ ho
  have hu : zBi isL ((zAt m, zB9 m, zBJ m) : zAU) = true := by
   simp only [zBi, decide_eq_true_eq]
   simp only [zAQ, decide_eq_true_eq] at q4
   refine ⟨?_, q4, q3⟩
   have : zBf (zBv (toS x)) = zAt m := w2
   omega
  have hp : zB2 x.1 (zAt m) = none := by
   cases z : zB2 x.1 (zAt m) with
   | none => rfl
   | some i => rw [zDW hok hu z] at hf; cases hf
  have q5 : doS (toS x) (zAt m, zB9 m, zBJ m) = none := by
   unfold doS
   dsimp only
   have w3' : zCl (zB9 m) (zCV (zBv (toS x))) = 0 := w3
   rw [if_pos w3']
   have : zI4 x.1 (zHh (zBv (toS x)) (zAt m, zB9 m, zBJ m)) = none := by
    rw [zK2 hok, zDp hok (u := zHh (zBv (toS x)) (zAt m, zB9 m, zBJ m)) hp]
    rfl
   unfold zHh at this
   rw [this]
  rw [q5]
theorem zNC {c : zAu} {u : zAU} (h : okc c) (hf : (zB1 c u).2 = true) : zBi isL u = true := by
 cases z : zBi isL u
 ·rw [zFz h z] at hf; cases hf
 ·rfl
theorem zF1 {x : zAE} {id : Int} {m : zB5} (h : zAZ x = true) (hm : zBm m = 11) (hw : zEZ x (zAt m, zB9 m, zBJ m) = true) (hf : (zB1 x.1 (zAt m, zB9 m, zBJ m)).2 = true) :
    zBi isL ((zAt m, zB9 m, zBJ m) : zAU) = true ∧ zAZ (zDq x (zAt m, zB9 m, zBJ m)) = true ∧ zBv (toS (zDq x (zAt m, zB9 m, zBJ m))) = zBv (toS x) ∧ x.2.2.1 < (x.2.1.length : Int) ∧ zCl (zB9 m) (zCV (zBv (toS x))) = 0 ∧
    zBO (toS x) id m = (toS (zJ3 (zDq x (zAt m, zB9 m, zBJ m)) (zAt m, zB9 m, zBJ m)), [msg 2 id 4 10 (zAt m) [] 0], 2) := by
 have hP := zB4 h
 have hok : okc x.1 := hP.ok
 have hu := zNC hok hf
 unfold zEZ at hw
 simp only [Bool.and_eq_true, decide_eq_true_eq] at hw
 obtain ⟨w1, w2, w3⟩ := hw
 have w3' : zCl (zB9 m) (zCV (zBv (toS x))) = 0 := w3
 have w2' : zBf (zBv (toS x)) = zAt m := w2
 have h1 : x.2.2.1 < (x.2.1.length : Int) := hP.wait w1
 have ho := hP.ops _ (zEa hP.at0 h1)
 have hd := did_full ho hu
 obtain ⟨hok2, h2⟩ := zMm hok hu hd rfl hf
 obtain ⟨u1, u2, u3⟩ := zB0 hu
 have hheld : (toS x).held = zAA := zDo hP (by show x.2.2.2.1 ≠ 1; omega)
 refine ⟨hu, ?_, rfl, h1, w3', ?_⟩
 ·have : CoreP (toS (zDq x (zAt m, zB9 m, zBJ m))) := ⟨hok2, hP.len, hP.at0, hP.at1, hP.told, .inl rfl, fun e => (by cases e), hP.ops, zFw (by show (0 : Int) ≠ 1; decide) hheld⟩
  exact zI8.2 this
 ·unfold zBO
  rw [if_neg (by omega), if_neg (by omega), if_pos hm, if_neg]
  ·have hp : zB2 x.1 (zHh (zBv (toS x)) (zAt m, zB9 m, zBJ m)).1 ≠ none := by
     intro z
     rw [zDp hok (u := (zAt m, zB9 m, zBJ m)) z] at hf
     cases hf
   have h3 : (zB1 x.1 (zHh (zBv (toS x)) (zAt m, zB9 m, zBJ m))).2 = true := by
    cases z : zB2 x.1 (zHh (zBv (toS x)) (zAt m, zB9 m, zBJ m)).1 with
    | none => exact absurd z hp
    | some i => rw [zDW hok hd z]
   have q5 : doS (toS x) (zAt m, zB9 m, zBJ m) = some { (toS x) with cache := (zB1 x.1 (zHh (zBv (toS x)) (zAt m, zB9 m, zBJ m))).1, told := x.2.2.2.2.2 ++ [(zIH (zBv (toS x)) ((zBJ m).getD ((zBv (toS x)).2.1 % 2).toNat 0)).2], at_ := x.2.2.1 + 1 } := by
    unfold doS
    dsimp only
    rw [if_pos w3']
    have : zI4 x.1 (zHh (zBv (toS x)) (zAt m, zB9 m, zBJ m)) = some (zB1 x.1 (zHh (zBv (toS x)) (zAt m, zB9 m, zBJ m))).1 := by
     rw [zK2 hok, h3]
     rfl
    unfold zHh at this ⊢
    rw [this]
   rw [q5]
   dsimp only
   have e9 : (zB1 (zDq x (zAt m, zB9 m, zBJ m)).1 (zHh (zBv (toS (zDq x (zAt m, zB9 m, zBJ m)))) (zAt m, zB9 m, zBJ m))).1 = (zB1 x.1 (zHh (zBv (toS x)) (zAt m, zB9 m, zBJ m))).1 := congrArg Prod.fst h2
   unfold zJ3
   rw [e9]
   rfl
  ·rintro (q | q | q | q)
   ·exact q w1
   ·exact q w2'
   ·have u3' : isL (zBJ m) = true := u3
    rw [u3'] at q; cases q
   ·simp only [zAQ, decide_eq_false_iff_not] at q
    exact q u2
theorem zEE {x : zAE} {id : Int} {m : zB5} (hm : zBm m = 12) (h : x.2.2.2.1 ≠ 1 ∨ x.2.2.2.2.1.1 ≠ zAt m) : zBO (toS x) id m = (toS x, [], 0) := by
 unfold zBO
 rw [if_neg (by omega), if_pos hm, if_pos h]
theorem zHc {x : zAE} {id : Int} {m : zB5} (hm : zBm m = 12) (h : x.2.2.2.1 = 1) (h2 : x.2.2.2.2.1.1 = zAt m) : zBO (toS x) id m = (toS (x.1, x.2.1, x.2.2.1, 0, zAA, x.2.2.2.2.2), [], 1) := by
 unfold zBO
 rw [if_neg (by omega), if_pos hm, if_neg]
 rintro (q | q)
 ·exact q h
 ·exact q h2
theorem zIE {x : zAE} {id : Int} {m : zB5} (h6 : zBm m ≠ 6) (h7 : zBm m ≠ 7) (h12 : zBm m ≠ 12) (h11 : zBm m ≠ 11) : zBO (toS x) id m = (toS x, [], 0) := by
 unfold zBO
 rw [if_neg (by omega), if_neg h12, if_neg h11]
theorem zKC {x : zAE} {id : Int} {m : zB5} (h : zAZ x = true) (hb : zAQ (zAt m) 0 15 = false) : zBO (toS x) id m = (toS x, [], 0) := by
 have hP := zB4 h
 have hb' : ¬ (0 ≤ zAt m ∧ zAt m ≤ 15) := by simpa [zAQ] using hb
 by_cases h67 : zBm m = 6 ∨ zBm m = 7
 ·unfold zBO
  rw [if_pos h67, hb]
  rfl
 by_cases h12 : zBm m = 12
 ·refine zEE h12 ?_
  by_cases hp : x.2.2.2.1 = 1
  ·have := (zCE hP hp).1
   refine .inr fun e => hb' ?_
   have e' : (toS x).held.1 = zAt m := e
   rw [← e']; exact this
  ·exact .inl hp
 by_cases h11 : zBm m = 11
 ·unfold zBO
  rw [if_neg h67, if_neg h12, if_pos h11]
  by_cases q : (toS x).phase ≠ 2 ∨ zBf (zBv (toS x)) ≠ zAt m ∨ isL (zBJ m) = false ∨ zAQ (zB9 m) 1 3 = false
  ·rw [if_pos q]
  ·refine absurd ?_ q
   by_cases hp : (toS x).phase = 2
   ·have ho := hP.ops _ (zEa hP.at0 (hP.wait hp))
    have hln := zGQ ho
    refine .inr (.inl fun e => hb' ?_)
    rw [← e]; exact hln
   ·exact .inl hp
 ·exact zIE (by omega) (by omega) h12 h11
end Go.Proofs.YtoihjejenjcokaaGreatDoor
