import Derived.Test.YtmdhblhdfcocjaaGreatDoorP00Box
import Derived.Test.YtmdhblhdfcocjaaGreatDoorP28
namespace Go.Proofs.YtmdhblhdfcocjaaGreatDoor
open Go.ChangeShapes Go.WideShapes Go.ChangeAt Go.RowKit
set_option linter.unusedVariables false
theorem zNA (a b c : Value) (W : World) : (Instr.field 39 (.agg #[a, b, c]) 2).run Tryz.prog W = .ok c W := by kernel_rfl
theorem zA0 (w : World) (g o : Nat) (v : Value) (vs : List Value) : zAo w g o (v :: vs) = zAo (w.setCell ⟨g, o, none⟩ v) g (o + 1) vs := rfl
theorem zA3 (w : World) (g o : Nat) : zAo w g o [] = w := rfl
theorem zBj {W : World} {k : Nat} {o : Obj} (h : W.heap[k]? = some o) : W.drew.heap[k]? = some o := h
theorem zBA (w : World) (S : zAW) : zA5.own w S [sL none 0 0] [] := ⟨_, [], fun _ => False, rfl, World.ownsRow_nil _ _ _ _, fun g hg => by simp [Value.ownBlock] at hg, fun _ h => h.elim, rfl⟩
noncomputable def zJI (id k : Int) (u : zAT) (left : Int) : zB5 := msg 2 id 4 (if 2 ≤ u.2.1 then 8 else 9) k (if 2 ≤ u.2.1 then u.2.2 else []) (if left = 0 then 1 else 0)
def asW (u : zAT) (s : Int) : zAT := if s = 0 then zAF else (u.1, s, u.2.2)
def nxt (s e : Int) : Int := (zGb s e).getD s
noncomputable def inC (x : zAD) (k e : Int) : zAD := (zDZ x.1 k (asW (zAC x.1 k) (nxt (zAC x.1 k).2.1 e)), x.2)
noncomputable def inM (x : zAD) (id k e : Int) : zB5 := zJI id k (zAC x.1 k) (nxt (zAC x.1 k).2.1 e)
def zMk (u : zAT) (e : Int) : zAT := if 2 ≤ u.2.1 ∨ e = 4 then (u.1, 0, []) else u
noncomputable def inH (x : zAD) (e : Int) : zAD := (x.1, x.2.1, x.2.2.1, x.2.2.2.1, zMk x.2.2.2.2.1 e, x.2.2.2.2.2)
noncomputable def inHM (x : zAD) (id e : Int) : zB5 := zJI id x.2.2.2.2.1.1 x.2.2.2.2.1 (zMk x.2.2.2.2.1 e).2.1
theorem zLs : ∀ e : Int, (e = 3 ∨ e = 4) → nxt 0 e = 0 ∧ nxt 1 3 = 1 ∧ nxt 2 3 = 1 ∧ nxt 3 3 = 1 ∧ nxt 1 4 = 0 ∧ nxt 2 4 = 0 ∧ nxt 3 4 = 0 := by
 rintro e (rfl | rfl) <;> decide
theorem set_same {c : zAu} (h : okc c) {k : Int} {j : Nat} (ha : atC c k = some j) : zDZ c k (zAC c k) = c := by
 obtain ⟨h0, i, he, hf⟩ := zFv h ha;unfold zDZ;rw [ha];have d : (zAm c k).set j (zAC c k) = zAm c k := by
  obtain ⟨g, a⟩ := List.getElem?_eq_some_iff.1 i;rw [← a]; exact List.set_getElem_self g
 have f : c.1.set (zAE c k) (zAm c k) = c.1 := by
  obtain ⟨b, a⟩ := List.getElem?_eq_some_iff.1 (zDy h k).2.1;conv => lhs; rw [← a]
  exact List.set_getElem_self b
 show ((c.1.set (zAE c k) ((zAm c k).set j (zAC c k)), c.2) : zAu) = c
 rw [d, f]
theorem zGY {c : zAu} (k : Int) : zDZ c k zAF = zCY c k := by
 unfold zDZ zCY;cases atC c k <;> rfl
theorem zKB {x : zAD} {id k : Int} {m : zB5} (h : zAY x = true) (hb : zAP k 0 15 = true) (hl : zAt m = k) (hm : zBm m = 6 ∨ zBm m = 7) (hh : x.2.2.2.2.1.1 ≠ k) :
    zAI (toS x) id m = (toS (inC x k (zBm m - 3)), inM x id k (zBm m - 3)) := by
 have i := zB4 h;have a : okc x.1 := i.ok;unfold zAI;dsimp only
 rw [hl];unfold inC inM;cases b : atC x.1 k with
 | none =>
  have o := zGr b;rw [o];dsimp only
  rw [if_neg (by rintro ⟨-, q, -⟩; exact hh q)];have f : nxt (zAF : zAT).2.1 (zBm m - 3) = 0 := (zLs _ (by omega)).1;rw [f];have d : zDZ x.1 k (asW zAF 0) = x.1 := by unfold zDZ; rw [b]
  rw [d];rfl
 | some j =>
  obtain ⟨f0, f1, f2, f3, f4, f5, f6⟩ := zIA a b;have g : (zAC x.1 k).2.1 = 1 ∨ (zAC x.1 k).2.1 = 2 ∨ (zAC x.1 k).2.1 = 3 := by omega
  have c := zLs 3 (.inl rfl);dsimp only
  rcases hm with n | l
  ·rw [n, if_neg (by decide), show (6 : Int) - 3 = 3 from rfl];rcases g with q | q | q
   ·rw [q, c.2.1];have d : asW (zAC x.1 k) 1 = zAC x.1 k := by unfold asW; rw [if_neg (by decide), ← q]
    rw [d, set_same a b];unfold zJI;rw [q];rfl
   ·rw [q, c.2.2.1];unfold zJI asW;rw [q];rfl
   ·rw [q, c.2.2.2.1];unfold zJI asW;rw [q];rfl
  ·rw [l, if_pos rfl, show (7 : Int) - 3 = 4 from rfl];have f : nxt (zAC x.1 k).2.1 4 = 0 := by rcases g with q | q | q <;> rw [q] <;> decide
   rw [f, show asW (zAC x.1 k) 0 = zAF from rfl, zGY];unfold zJI;rfl
theorem zMl {x : zAD} {id k : Int} {m : zB5} (h : zAY x = true) (hb : zAP k 0 15 = true) (hl : zAt m = k) (hm : zBm m = 6 ∨ zBm m = 7) (hh : x.2.2.2.2.1.1 = k) :
    zAI (toS x) id m = (toS (inH x (zBm m - 3)), inHM x id (zBm m - 3)) := by
 have o := zB4 h;have y : 0 ≤ k ∧ k ≤ 15 := by simpa [zAP] using hb
 have a : (toS x).phase = 1 := by
  by_cases q : (toS x).phase = 1
  ·exact q
  ·have B := zDo o q;have D : x.2.2.2.2.1 = zAF := B;rw [D] at hh;have : (-1 : Int) = k := hh;omega
 obtain ⟨g0, n, z⟩ := zCE o a;obtain ⟨c, p, v, r, ⟨l, s, d⟩, t⟩ := x;have g : r = 1 := a;have f : l = k := hh;subst g;subst f;have j : atC c l = none := z;unfold zAI inH inHM zMk zJI;dsimp only
 rw [hl, j];dsimp only
 by_cases i : s = 0
 ·subst i;have C : d = [] := by
   rcases n with q | q
   ·exact q.2
   ·have := zB0 q; simp only at this; omega
  subst C;rw [if_neg (by rintro ⟨-, -, q⟩; exact q rfl)];rcases hm with e | e <;> rw [e] <;> rfl
 ·rw [if_pos ⟨rfl, rfl, i⟩];by_cases b : 2 ≤ s
  ·rw [if_pos b, if_pos (.inl b), if_pos b, if_pos b];rfl
  ·have A : s = 1 := by
     rcases n with q | q
     ·exact absurd q.1 i
     ·have := zB0 q; simp only at this; omega
   subst A;rcases hm with e | e <;> rw [e] <;> rfl
theorem zGZ {x : zAD} {id : Int} {m : zB5} (hm : zBm m = 6 ∨ zBm m = 7) (hb : zAP (zAt m) 0 15 = true) : zBO (toS x) id m = ((zAI (toS x) id m).1, [(zAI (toS x) id m).2], 1) := by
 unfold zBO;rw [if_pos hm, if_pos hb]
theorem zNB {t n y : Int} (h : zAJ t n = true) (h0 : 0 ≤ y) (h1 : y < n) : zCU (zCU t n y) n y = zCU t n y := by
 simp only [zAJ, decide_eq_true_eq] at h;rcases h with ⟨rfl, rfl⟩ | ⟨rfl, a, b⟩ | ⟨rfl, a, b⟩
 ·obtain rfl : y = 0 := by omega
  decide
 ·rcases (by omega : t = 0 ∨ t = 1) with rfl | rfl <;> rcases (by omega : y = 0 ∨ y = 1) with rfl | rfl <;> decide
 ·rcases (by omega : t = 0 ∨ t = 1 ∨ t = 2 ∨ t = 3 ∨ t = 4 ∨ t = 5 ∨ t = 6 ∨ t = 7) with rfl | rfl | rfl | rfl | rfl | rfl | rfl | rfl <;> rcases (by omega : y = 0 ∨ y = 1 ∨ y = 2 ∨ y = 3) with rfl | rfl | rfl | rfl <;> decide
theorem zMm {c : zAu} {u v : zAT} (h : okc c) (hu : zBi isL u = true) (hv : zBi isL v = true) (e : v.1 = u.1) (hf : (zB1 c u).2 = true) : okc (zB1 c u).1 ∧ zB1 (zB1 c u).1 v = zB1 c v := by
 cases m : zB2 c u.1 with
 | none => rw [zDp h m] at hf; cases hf
 | some i =>
  rw [zDW h hu m];dsimp only
  obtain ⟨f, y, E, -⟩ := zIb (ln := isL) (tok := zAJ) (tou := zCU) zGN h hu m;refine ⟨f, ?_⟩;have a := zH8 (ln := isL) (tok := zAJ) (tou := zCU) zGN h hu m;have n : atC (zCq zCU c u i) u.1 = some i := by
   unfold zEV at a;rw [if_pos (zCK.2 f)] at a;split at a
   ·rename_i j hj
    rw [hj];simp only [Prod.mk.injEq] at a;have := a.2;congr 1
    omega
   ·simp only [Prod.mk.injEq] at a;have := a.2;omega
  have o : zB2 (zCq zCU c u i) v.1 = some i := by unfold zB2; rw [e, n]
  rw [zDW f hv o, zDW h hv (by rw [e]; exact m)];have z := h.1;have b : zAE (zCq zCU c u i) v.1 = zAE c u.1 := by unfold zAE zCq; simp only [List.length_set, e]
  have d : zAE c v.1 = zAE c u.1 := by rw [e]
  have l : zAm (zCq zCU c u i) v.1 = (zAm c u.1).set i u := by
   rw [e];unfold zCq;rw [zE5 z, if_pos rfl]
  have g : zAm c v.1 = zAm c u.1 := by rw [e]
  obtain ⟨B, D, A, t4, t5, t6, t7⟩ := zKi h u.1;have p : zBs (zCq zCU c u i) v.1 = zCU (zBs c u.1) (zAm c u.1).length i := by
   unfold zBs;rw [b];unfold zCq;obtain ⟨C, q2⟩ := List.getElem?_eq_some_iff.1 D;rw [List.getD_eq_getElem?_getD, List.getElem?_set, if_pos rfl, if_pos C];rfl
  have k : zBs c v.1 = zBs c u.1 := by rw [e]
  have hi := (List.getElem?_eq_some_iff.1 E).1;have F : zCq zCU (zCq zCU c u i) v i = zCq zCU c v i := by
   have s : zCq zCU (zCq zCU c u i) v i = ((zCq zCU c u i).1.set (zAE (zCq zCU c u i) v.1) ((zAm (zCq zCU c u i) v.1).set i v), (zCq zCU c u i).2.set (zAE (zCq zCU c u i) v.1) (zCU (zBs (zCq zCU c u i) v.1) (zAm (zCq zCU c u i) v.1).length i)) := rfl;have r : zCq zCU c v i = (c.1.set (zAE c v.1) ((zAm c v.1).set i v), c.2.set (zAE c v.1) (zCU (zBs c v.1) (zAm c v.1).length i)) := rfl;have q : zCU (zCU (zBs c u.1) (zAm c u.1).length i) ((zAm c u.1).set i u).length i = zCU (zBs c u.1) (zAm c u.1).length i := by
    rw [List.length_set];exact zNB (by rw [B]; exact A) (by omega) (by omega)
   rw [s, r, b, l, p, d, g, k, q, List.set_set];show (((c.1.set (zAE c u.1) ((zAm c u.1).set i u)).set (zAE c u.1) ((zAm c u.1).set i v), (c.2.set (zAE c u.1) (zCU (zBs c u.1) (zAm c u.1).length i)).set (zAE c u.1) (zCU (zBs c u.1) (zAm c u.1).length i)) : zAu) = _
   simp only [List.set_set]
  rw [F]
noncomputable def zEZ (x : zAD) (u : zAT) : Bool := decide (x.2.2.2.1 = 2) && (decide (zBe (zBv (toS x)) = u.1) && decide (zCl u.2.1 (zCV (zBv (toS x))) = 0))
noncomputable def zDq (x : zAD) (u : zAT) : zAD := ((zB1 x.1 u).1, x.2.1, x.2.2.1, 0, x.2.2.2.2.1, x.2.2.2.2.2)
theorem zJ4 {x : zAD} {id : Int} {m : zB5} (h : zAY x = true) (hm : zBm m = 11) (hw : zEZ x (zAt m, zB9 m, zBJ m) = false) : zBO (toS x) id m = (toS x, [], 0) := by
 unfold zBO;rw [if_neg (by omega), if_neg (by omega), if_pos hm];by_cases q : (toS x).phase ≠ 2 ∨ zBe (zBv (toS x)) ≠ zAt m ∨ isL (zBJ m) = false ∨ zAP (zB9 m) 1 3 = false
 ·rw [if_pos q]
 ·rw [if_neg q];have c : x.2.2.2.1 = 2 := by
   by_cases z : x.2.2.2.1 = 2
   ·exact z
   ·exact absurd (.inl z) q
  have d : zBe (zBv (toS x)) = zAt m := by
   by_cases z : zBe (zBv (toS x)) = zAt m
   ·exact z
   ·exact absurd (.inr (.inl z)) q
  unfold zEZ at hw;rw [decide_eq_true c, decide_eq_true d] at hw;have b : ¬ zCl (zB9 m) (zCV (zBv (toS x))) = 0 := by simpa using hw
  have a : doS (toS x) (zAt m, zB9 m, zBJ m) = none := by
   unfold doS;dsimp only
   rw [if_neg b]
  rw [a]
theorem did_full {o : OpD} {u : zAT} (ho : zNw o = true) (hu : zBi isL u = true) : zBi isL (zHh o u) = true := by
 obtain ⟨b, f2, a⟩ := zB0 hu;unfold zHh;simp only [zBi, decide_eq_true_eq];refine ⟨b, ?_, zGR ho a⟩;split <;> omega
theorem zHx {x : zAD} {id : Int} {m : zB5} (h : zAY x = true) (hm : zBm m = 11) (hw : zEZ x (zAt m, zB9 m, zBJ m) = true) (hf : (zB1 x.1 (zAt m, zB9 m, zBJ m)).2 = false) : zBO (toS x) id m = (toS x, [], 0) := by
 have b := zB4 h;have a : okc x.1 := b.ok;unfold zEZ at hw;simp only [Bool.and_eq_true, decide_eq_true_eq] at hw;obtain ⟨f, p, s⟩ := hw;have o : x.2.2.1 < (x.2.1.length : Int) := b.wait f;have j := b.ops _ (zEa b.at0 o);unfold zBO;rw [if_neg (by omega), if_neg (by omega), if_pos hm];by_cases q : (toS x).phase ≠ 2 ∨ zBe (zBv (toS x)) ≠ zAt m ∨ isL (zBJ m) = false ∨ zAP (zB9 m) 1 3 = false
 ·rw [if_pos q]
 ·rw [if_neg q];have g : isL (zBJ m) = true := by
   cases z : isL (zBJ m)
   ·exact absurd (.inr (.inr (.inl z))) q
   ·rfl
  have d : zAP (zB9 m) 1 3 = true := by
   cases z : zAP (zB9 m) 1 3
   ·exact absurd (.inr (.inr (.inr z))) q
   ·rfl
  have k := zGQ j;have l : zBi isL ((zAt m, zB9 m, zBJ m) : zAT) = true := by
   simp only [zBi, decide_eq_true_eq];simp only [zAP, decide_eq_true_eq] at d;refine ⟨?_, d, g⟩;have : zBe (zBv (toS x)) = zAt m := p;omega
  have r : zB2 x.1 (zAt m) = none := by
   cases z : zB2 x.1 (zAt m) with
   | none => rfl
   | some i => rw [zDW a l z] at hf; cases hf
  have n : doS (toS x) (zAt m, zB9 m, zBJ m) = none := by
   unfold doS;dsimp only
   have c : zCl (zB9 m) (zCV (zBv (toS x))) = 0 := s;rw [if_pos c];have : zI5 x.1 (zHh (zBv (toS x)) (zAt m, zB9 m, zBJ m)) = none := by
    rw [zK2 a, zDp a (u := zHh (zBv (toS x)) (zAt m, zB9 m, zBJ m)) r];rfl
   unfold zHh at this;rw [this]
  rw [n]
theorem zNC {c : zAu} {u : zAT} (h : okc c) (hf : (zB1 c u).2 = true) : zBi isL u = true := by
 cases z : zBi isL u
 ·rw [zFz h z] at hf; cases hf
 ·rfl
theorem zF1 {x : zAD} {id : Int} {m : zB5} (h : zAY x = true) (hm : zBm m = 11) (hw : zEZ x (zAt m, zB9 m, zBJ m) = true) (hf : (zB1 x.1 (zAt m, zB9 m, zBJ m)).2 = true) :
    zBi isL ((zAt m, zB9 m, zBJ m) : zAT) = true ∧ zAY (zDq x (zAt m, zB9 m, zBJ m)) = true ∧ zBv (toS (zDq x (zAt m, zB9 m, zBJ m))) = zBv (toS x) ∧ x.2.2.1 < (x.2.1.length : Int) ∧ zCl (zB9 m) (zCV (zBv (toS x))) = 0 ∧
    zBO (toS x) id m = (toS (zJ3 (zDq x (zAt m, zB9 m, zBJ m)) (zAt m, zB9 m, zBJ m)), [msg 2 id 4 10 (zAt m) [] 0], 2) := by
 have b := zB4 h;have a : okc x.1 := b.ok;have g := zNC a hf;unfold zEZ at hw;simp only [Bool.and_eq_true, decide_eq_true_eq] at hw;obtain ⟨l, r, s⟩ := hw;have f : zCl (zB9 m) (zCV (zBv (toS x))) = 0 := s;have j : zBe (zBv (toS x)) = zAt m := r;have n : x.2.2.1 < (x.2.1.length : Int) := b.wait l;have A := b.ops _ (zEa b.at0 n);have o := did_full A g;obtain ⟨d, v⟩ := zMm a g o rfl hf;obtain ⟨u1, B, D⟩ := zB0 g;have c : (toS x).held = zAF := zDo b (by show x.2.2.2.1 ≠ 1; omega);refine ⟨g, ?_, rfl, n, f, ?_⟩
 ·have : CoreP (toS (zDq x (zAt m, zB9 m, zBJ m))) := ⟨d, b.len, b.at0, b.at1, b.told, .inl rfl, fun e => (by cases e), b.ops, zFw (by show (0 : Int) ≠ 1; decide) c⟩;exact zI9.2 this
 ·unfold zBO;rw [if_neg (by omega), if_neg (by omega), if_pos hm, if_neg]
  ·have C : zB2 x.1 (zHh (zBv (toS x)) (zAt m, zB9 m, zBJ m)).1 ≠ none := by
     intro z;rw [zDp a (u := (zAt m, zB9 m, zBJ m)) z] at hf;cases hf
   have p : (zB1 x.1 (zHh (zBv (toS x)) (zAt m, zB9 m, zBJ m))).2 = true := by
    cases z : zB2 x.1 (zHh (zBv (toS x)) (zAt m, zB9 m, zBJ m)).1 with
    | none => exact absurd z C
    | some i => rw [zDW a o z]
   have y : doS (toS x) (zAt m, zB9 m, zBJ m) = some { (toS x) with cache := (zB1 x.1 (zHh (zBv (toS x)) (zAt m, zB9 m, zBJ m))).1, told := x.2.2.2.2.2 ++ [(zII (zBv (toS x)) ((zBJ m).getD ((zBv (toS x)).2.1 % 2).toNat 0)).2], at_ := x.2.2.1 + 1 } := by
    unfold doS;dsimp only
    rw [if_pos f];have : zI5 x.1 (zHh (zBv (toS x)) (zAt m, zB9 m, zBJ m)) = some (zB1 x.1 (zHh (zBv (toS x)) (zAt m, zB9 m, zBJ m))).1 := by
     rw [zK2 a, p];rfl
    unfold zHh at this ⊢;rw [this]
   rw [y];dsimp only
   have E : (zB1 (zDq x (zAt m, zB9 m, zBJ m)).1 (zHh (zBv (toS (zDq x (zAt m, zB9 m, zBJ m)))) (zAt m, zB9 m, zBJ m))).1 = (zB1 x.1 (zHh (zBv (toS x)) (zAt m, zB9 m, zBJ m))).1 := congrArg Prod.fst v;unfold zJ3;rw [E];rfl
  ·rintro (q | q | q | q)
   ·exact q l
   ·exact q j
   ·have k : isL (zBJ m) = true := D;rw [k] at q; cases q
   ·simp only [zAP, decide_eq_false_iff_not] at q;exact q B
theorem zEE {x : zAD} {id : Int} {m : zB5} (hm : zBm m = 12) (h : x.2.2.2.1 ≠ 1 ∨ x.2.2.2.2.1.1 ≠ zAt m) : zBO (toS x) id m = (toS x, [], 0) := by
 unfold zBO;rw [if_neg (by omega), if_pos hm, if_pos h]
theorem zHc {x : zAD} {id : Int} {m : zB5} (hm : zBm m = 12) (h : x.2.2.2.1 = 1) (h2 : x.2.2.2.2.1.1 = zAt m) : zBO (toS x) id m = (toS (x.1, x.2.1, x.2.2.1, 0, zAF, x.2.2.2.2.2), [], 1) := by
 unfold zBO;rw [if_neg (by omega), if_pos hm, if_neg];rintro (q | q)
 ·exact q h
 ·exact q h2
theorem zIF {x : zAD} {id : Int} {m : zB5} (h6 : zBm m ≠ 6) (h7 : zBm m ≠ 7) (h12 : zBm m ≠ 12) (h11 : zBm m ≠ 11) : zBO (toS x) id m = (toS x, [], 0) := by
 unfold zBO;rw [if_neg (by omega), if_neg h12, if_neg h11]
theorem zKC {x : zAD} {id : Int} {m : zB5} (h : zAY x = true) (hb : zAP (zAt m) 0 15 = false) : zBO (toS x) id m = (toS x, [], 0) := by
 have g := zB4 h;have b : ¬ (0 ≤ zAt m ∧ zAt m ≤ 15) := by simpa [zAP] using hb
 by_cases c : zBm m = 6 ∨ zBm m = 7
 ·unfold zBO;rw [if_pos c, hb];rfl
 by_cases a : zBm m = 12
 ·refine zEE a ?_;by_cases d : x.2.2.2.1 = 1
  ·have := (zCE g d).1;refine .inr fun e => b ?_;have k : (toS x).held.1 = zAt m := e;rw [← k]; exact this
  ·exact .inl d
 by_cases f : zBm m = 11
 ·unfold zBO;rw [if_neg c, if_neg a, if_pos f];by_cases q : (toS x).phase ≠ 2 ∨ zBe (zBv (toS x)) ≠ zAt m ∨ isL (zBJ m) = false ∨ zAP (zB9 m) 1 3 = false
  ·rw [if_pos q]
  ·refine absurd ?_ q;by_cases d : (toS x).phase = 2
   ·have j := g.ops _ (zEa g.at0 (g.wait d));have i := zGQ j;refine .inr (.inl fun e => b ?_);rw [← e]; exact i
   ·exact .inl d
 ·exact zIF (by omega) (by omega) a f
end Go.Proofs.YtmdhblhdfcocjaaGreatDoor
