import Derived.Test.YtmdhblhdfcocjaaGreatDoorP00Box
import Derived.Test.YtmdhblhdfcocjaaGreatDoorP21
namespace Go.Proofs.YtmdhblhdfcocjaaGreatDoor
set_option linter.unusedVariables false
def zBm (m : zB5) : Int := m.2.2.2.1
def zAt (m : zB5) : Int := m.2.2.2.2.1
def zBJ (m : zB5) : List Int := m.2.2.2.2.2.1
def zB9 (m : zB5) : Int := m.2.2.2.2.2.2
def msg (road frm tgt kind line : Int) (data : List Int) (flag : Int) : zB5 := (road, frm, tgt, kind, line, data, flag)
abbrev zNw (o : OpD) : Bool := zBN o
def zCV (o : OpD) : Bool := zNw o && decide (o.1 ≠ 1)
def zBe (o : OpD) : Int := o.2.1 / 2
def zIH (o : OpD) (z : Int) : Int × Int := (zC0 o.1 o.2.2.1 o.2.2.2 z, zCt o.1 z)
theorem zGN : ∀ t n y : Int, zAJ t n = true → 0 ≤ y → y < n → zAJ (zCU t n y) n = true := fun _ _ _ h0 h1 h2 => zMW h0 h1 h2
theorem env_vic : ∀ t n : Int, zAJ t n = true → 0 ≤ goI t n ∧ goI t n < n := fun _ _ h => ⟨(go_in h).1, (go_in h).2.1⟩
structure CoreS where
 cache : zAu
 prog : List OpD
 at_ : Int
 phase : Int
 held : zAT
 told : List Int
 deriving DecidableEq
def zI4 (c : zAu) (u : zAT) : Option zAu := if zBh isL u then (match zB1 c u.1 with
 | some j => some (zCq zCU c u j)
 | none => none) else none
def zCY (c : zAu) (k : Int) : zAu := match atC c k with
 | some j => dropX c k j
 | none => c
def zDZ (c : zAu) (k : Int) (u : zAT) : zAu := match atC c k with
 | some j => (c.1.set (zAE c k) ((zAm c k).set j u), c.2)
 | none => c
def zCc (c : zAu) (k : Int) : Int := match zB1 c k with
 | some _ => -1
 | none => ((zAm c k).getD (goI (zBs c k) (zAm c k).length).toNat zAF).1
def zBw (c : CoreS) : OpD := c.prog.getD c.at_.toNat (0, 0, 0, 0)
def doS (c : CoreS) (u : zAT) : Option CoreS :=
 let o := zBw c
 if zCl u.2.1 (zCV o) = 0 then
  let r := zIH o (u.2.2.getD (o.2.1 % 2).toNat 0)
  match zI4 c.cache (u.1, (if zCV o then 3 else u.2.1), u.2.2.set (o.2.1 % 2).toNat r.1) with
  | some cc => some { c with cache := cc, told := c.told ++ [r.2], at_ := c.at_ + 1 }
  | none => none
 else none
def zBT (c : CoreS) (id : Int) : CoreS × List zB5 × Int :=
 if c.phase ≠ 0 ∨ c.at_ = c.prog.length then (c, [], 0) else
 let o := zBw c
 let k := zBe o
 let u := zAC c.cache k
 if zCl u.2.1 (zCV o) = 0 then ((doS c u).getD c, [], 1)
 else if 0 ≤ zCc c.cache k then
  let out := zCc c.cache k
  let h := zAC c.cache out
  ({ c with held := h, cache := zCY c.cache out, phase := 1 }, [if 2 ≤ h.2.1 then msg 0 id 4 3 out h.2.2 1 else msg 0 id 4 3 out [] 0], 2)
 else ({ c with phase := 2 }, [msg 0 id 4 (if zCl u.2.1 (zCV o) = 2 then 2 else 1) k [] 0], 3)
def zAI (c : CoreS) (id : Int) (m : zB5) : CoreS × zB5 :=
 let k := zAt m
 let u := zAC c.cache k
 match atC c.cache k with
 | some _ =>
  let kd : Int := if 2 ≤ u.2.1 then 8 else 9
  let d := if 2 ≤ u.2.1 then u.2.2 else []
  if zBm m = 7 then ({ c with cache := zCY c.cache k }, msg 2 id 4 kd k d 1)
  else ({ c with cache := if 2 ≤ u.2.1 then zDZ c.cache k (u.1, 1, u.2.2) else c.cache }, msg 2 id 4 kd k d 0)
 | none =>
  if c.phase = 1 ∧ c.held.1 = k ∧ c.held.2.1 ≠ 0 then
   if 2 ≤ c.held.2.1 then ({ c with held := (k, 0, []) }, msg 2 id 4 8 k c.held.2.2 1)
   else if zBm m = 6 then (c, msg 2 id 4 9 k [] 0)
   else ({ c with held := (k, 0, []) }, msg 2 id 4 9 k [] 1)
  else (c, msg 2 id 4 9 k [] 1)
def zBO (c : CoreS) (id : Int) (m : zB5) : CoreS × List zB5 × Int :=
 if zBm m = 6 ∨ zBm m = 7 then
  if zAP (zAt m) 0 15 then ((zAI c id m).1, [(zAI c id m).2], 1) else (c, [], 0)
 else if zBm m = 12 then
  if c.phase ≠ 1 ∨ c.held.1 ≠ zAt m then (c, [], 0) else ({ c with phase := 0, held := zAF }, [], 1)
 else if zBm m = 11 then
  if c.phase ≠ 2 ∨ zBe (zBw c) ≠ zAt m ∨ isL (zBJ m) = false ∨ zAP (zB9 m) 1 3 = false then (c, [], 0)
  else match doS c (zAt m, zB9 m, zBJ m) with
   | some c' => ({ c' with phase := 0 }, [msg 2 id 4 10 (zAt m) [] 0], 2)
   | none => (c, [], 0)
 else (c, [], 0)
abbrev okc (c : zAu) : Prop := OkC isL zAJ c
theorem zEC {c : zAu} (h : okc c) (k : Int) : (zEV isL zAJ c k).1 = zAC c k := by
 unfold zEV zAC;rw [if_pos (zCK.2 h)];cases atC c k <;> rfl
theorem zGr {c : zAu} {k : Int} (h : atC c k = none) : zAC c k = zAF := by unfold zAC; rw [h]
theorem zLn {c : zAu} {k : Int} {j : Nat} (h : atC c k = some j) : zAC c k = (zAm c k).getD j zAF := by unfold zAC; rw [h]
theorem zNx {c : zAu} (h : okc c) (k : Int) : zIU isL c.1.length (zAE c k) (zAm c k) := by
 obtain ⟨a, h2, m, hm, b⟩ := h;exact (b _ _ (zDb a)).2.2
theorem zFv {c : zAu} (h : okc c) {k : Int} {j : Nat} (ha : atC c k = some j) : 0 ≤ k ∧ (zAm c k)[j]? = some (zAC c k) ∧ (zAC c k).1 = k ∧ zBh isL (zAC c k) = true := by
 obtain ⟨f, u, a, b⟩ := zD1 ha;have e : zAC c k = u := by rw [zLn ha, zG4 a]
 rw [e];refine ⟨f, a, b, ?_⟩;rcases (zNx h k).1 j u a with d | ⟨g, _⟩
 ·have := zCQ d; rw [this] at b; simp [zAF] at b; omega
 ·exact g
theorem zB0 {u : zAT} (h : zBh isL u = true) : (0 ≤ u.1 ∧ u.1 ≤ 15) ∧ (1 ≤ u.2.1 ∧ u.2.1 ≤ 3) ∧ isL u.2.2 = true := by simpa [zBh] using h
theorem way_or {c : zAu} (h : okc c) (k : Int) : (atC c k = none ∧ zAC c k = zAF) ∨ (∃ j, atC c k = some j) ∧ 0 ≤ k ∧ (zAC c k).1 = k ∧ zBh isL (zAC c k) = true := by
 cases a : atC c k with
 | none => exact .inl ⟨rfl, zGr a⟩
 | some j => obtain ⟨f, _, d, b⟩ := zFv h a; exact .inr ⟨⟨j, rfl⟩, f, d, b⟩
theorem zGO {c : zAu} (h : okc c) (k : Int) : (0 ≤ (zAC c k).2.1 ∧ (zAC c k).2.1 ≤ 3) ∧ ((zAC c k).2.1 = 0 ↔ atC c k = none) := by
 rcases way_or h k with ⟨b, a⟩ | ⟨⟨j, d⟩, _, _, f⟩
 ·rw [a]; simp [zAF, b]
 ·have := zB0 f; rw [d]; simp; omega
theorem fill_way {c c' : zAu} {u : zAT} (h : okc c) (hf : zI4 c u = some c') : okc c' ∧ zBh isL u = true ∧ zAC c' u.1 = u ∧ (∀ k, 0 ≤ k → k ≠ u.1 → zAC c' k = zAC c k) ∧ c'.1.length = c.1.length := by
 unfold zI4 at hf;split at hf
 ·rename_i hu
  cases b : zB1 c u.1 with
  | none => rw [b] at hf; cases hf
  | some j =>
   rw [b] at hf;injection hf with hf
   subst hf;have a := (zIa (ln := isL) (tok := zAJ) zGN h hu b).1;refine ⟨a, hu, ?_, fun k h0 hne => ?_, by simp [zCq]⟩
   ·have := zH8 (ln := isL) (tok := zAJ) zGN h hu b;rw [← zEC a, this]
   ·have := zL9 (ln := isL) (tok := zAJ) zGN h hu b hne h0;rw [← zEC a, ← zEC h, this]
 ·cases hf
theorem zNy {c : zAu} {u : zAT} (hu : zBh isL u = true) (hp : zB1 c u.1 ≠ none) : ∃ c', zI4 c u = some c' := by
 unfold zI4;rw [if_pos hu];cases h : zB1 c u.1 with
 | none => exact absurd h hp
 | some j => exact ⟨_, rfl⟩
theorem zGP {c : zAu} {k : Int} (h : (∃ j, atC c k = some j) ∨ ∃ j, zJQ c k = some j) : zB1 c k ≠ none := by
 unfold zB1;cases d : atC c k with
 | some j => simp
 | none =>
  rcases h with ⟨j, b⟩ | ⟨j, b⟩
  ·rw [d] at b; cases b
  ·simp [b]
theorem zNz {c : zAu} (h : okc c) {k : Int} {j : Nat} (ha : atC c k = some j) {x : zAT} (C : x = zAF ∨ (zBh isL x = true ∧ x.1 = k)) :
    let f : zAu := (c.1.set (zAE c k) ((zAm c k).set j x), c.2)
    okc f ∧ zAC f k = x ∧ (∀ l, 0 ≤ l → l ≠ k → zAC f l = zAC c l) ∧ (∀ l, zB1 c l ≠ none → zB1 f l ≠ none) ∧ (x = zAF → ∀ l, zAE c l = zAE c k → zB1 f l ≠ none) ∧ f.1.length = c.1.length := by
 intro f;obtain ⟨X, G, M, T⟩ := zFv h ha;have v := (List.getElem?_eq_some_iff.1 G).1;obtain ⟨H, L, m, U, N⟩ := h;have s : okc c := ⟨H, L, m, U, N⟩;obtain ⟨a1, a2, V, a4⟩ := zE4 (ln := isL) (tok := zAJ) (line := k) H L N;have S : c.2.set (zAE c k) (zBs c k) = c.2 := by
  apply List.ext_getElem?
  intro i;rw [List.getElem?_set];by_cases g : zAE c k = i
  ·subst g;rw [if_pos rfl];have K : zAE c k < c.2.length := by rw [L]; exact zFk H
   rw [if_pos K];unfold zBs;rw [List.getD_eq_getElem?_getD, List.getElem?_eq_getElem K]; rfl
  ·rw [if_neg g]
 have r := zNx s k;have R : k % (c.1.length : Int) = (zAE c k : Nat) := (zDa H).symm;have B : okc f := by
  have := ok_set (ln := isL) (tok := zAJ) (line := k) (i := j) (x := x) H L U N V (zMF r (by
   rcases C with rfl | ⟨C, n⟩
   ·exact .inl zDM
   ·exact .inr ⟨C, by rw [n]; exact R⟩) (fun i u hu' hx0 hux => by
   rcases C with rfl | ⟨C, n⟩
   ·simp [zAF] at hx0
   ·exact r.2 i j u _ hu' G (by omega) (by rw [hux, n, M])))
  rw [S] at this;exact this
 have d : ∀ l, zAm f l = if zAE c l = zAE c k then (zAm c k).set j x else zAm c l := fun l => zE5 H
 have Y : ∀ l, zAE f l = zAE c l := fun l => by simp [zAE, f]
 have E : (zAm f k)[j]? = some x := by rw [d, if_pos rfl, List.getElem?_set, if_pos rfl, if_pos v]
 refine ⟨B, ?_, fun l hl hne => ?_, fun l hp => ?_, fun A l z => ?_, by simp [f]⟩
 ·rcases C with rfl | ⟨C, n⟩
  ·apply zGr
   cases p : atC f k with
   | none => rfl
   | some i =>
    obtain ⟨_, y, b, q⟩ := zD1 p;rw [d, if_pos rfl, List.getElem?_set] at b;by_cases a : j = i
    ·rw [if_pos a, if_pos (by omega)] at b;injection b with b; subst b
     simp [zAF] at q; omega
    ·rw [if_neg a] at b;exact absurd (r.2 i j y _ b G (by omega) (by rw [q, M])).symm a
  ·have p := zKZ (zNx B k).2 X E n;rw [zLn p, zG4 E]
 ·rw [← zEC B, ← zEC s];refine (zIV (ln := isL) (tok := zAJ) s B fun y b => ?_).symm;rw [d];by_cases z : zAE c l = zAE c k
  ·rw [if_pos z];have D : zAm c l = zAm c k := by unfold zAm; rw [z]
   rw [D];constructor
   ·rintro ⟨i, g⟩;refine ⟨i, ?_⟩;rw [List.getElem?_set];by_cases a : j = i
    ·subst a; rw [G] at g; injection g with g; subst g; exact absurd (M.symm.trans b) (fun e => hne e.symm)
    ·rw [if_neg a]; exact g
   ·rintro ⟨i, g⟩;rw [List.getElem?_set] at g;by_cases a : j = i
    ·rw [if_pos a, if_pos (by omega)] at g;injection g with g; subst g
     rcases C with rfl | ⟨_, n⟩
     ·simp [zAF] at b; omega
     ·exact absurd (n.symm.trans b) (fun e => hne e.symm)
    ·rw [if_neg a] at g; exact ⟨i, g⟩
  ·rw [if_neg z]
 ·-- room stays
  by_cases z : zAE c l = zAE c k
  ·have D : zAm c l = zAm c k := by unfold zAm; rw [z]
   have o : zAm f l = (zAm c k).set j x := by rw [d, if_pos z]
   by_cases A : x = zAF
   ·refine zGP (.inr (zKY (i := j) (u := x) ?_ (by rw [A]; exact zDM)));rw [o, List.getElem?_set, if_pos rfl, if_pos v]
   ·have O : zBh isL x = true ∧ x.1 = k := C.resolve_left A;cases p : atC c l with
    | some i =>
     obtain ⟨I, y, b, q⟩ := zD1 p;rw [D] at b;refine zGP (.inl ?_);by_cases a : j = i
     ·subst a; rw [G] at b; injection b with b; subst b
      exact at_of I (i := j) (u := x) (by rw [o, List.getElem?_set, if_pos rfl, if_pos v]) (by rw [O.2, ← M, q])
     ·exact at_of I (i := i) (u := y) (by rw [o, List.getElem?_set, if_neg a]; exact b) q
    | none =>
     cases J : zJQ c l with
     | none => exfalso; apply hp; unfold zB1; rw [p]; exact J
     | some i =>
      obtain ⟨y, b, F⟩ := zGk J;rw [D] at b;by_cases a : j = i
      ·subst a; rw [G] at b; injection b with b; subst b
       rw [zEJ T] at F; cases F
      ·exact zGP (.inr (zKY (i := i) (u := y) (by rw [o, List.getElem?_set, if_neg a]; exact b) F))
  ·have o : zAm f l = zAm c l := by rw [d, if_neg z]
   have : zB1 f l = zB1 c l := by unfold zB1 atC zJQ; rw [o]
   rw [this]; exact hp
 ·refine zGP (.inr (zKY (i := j) (u := x) ?_ (by rw [A]; exact zDM)));rw [d, if_pos z, List.getElem?_set, if_pos rfl, if_pos v]
theorem zI5 {c : zAu} (h : okc c) {k : Int} {j : Nat} (ha : atC c k = some j) :
    okc (zCY c k) ∧ zAC (zCY c k) k = zAF ∧ (∀ l, 0 ≤ l → l ≠ k → zAC (zCY c k) l = zAC c l) ∧ (∀ l, zB1 c l ≠ none → zB1 (zCY c k) l ≠ none) ∧ (∀ l, zAE c l = zAE c k → zB1 (zCY c k) l ≠ none) ∧ (zCY c k).1.length = c.1.length := by
 have := zNz h ha (x := zAF) (.inl rfl);have e : zCY c k = (c.1.set (zAE c k) ((zAm c k).set j zAF), c.2) := by unfold zCY; rw [ha]; rfl
 rw [e];exact ⟨this.1, this.2.1, this.2.2.1, this.2.2.2.1, this.2.2.2.2.1 rfl, this.2.2.2.2.2⟩
theorem set_way {c : zAu} (h : okc c) {k : Int} {j : Nat} (ha : atC c k = some j) {x : zAT} (hx : zBh isL x = true ∧ x.1 = k) :
    okc (zDZ c k x) ∧ zAC (zDZ c k x) k = x ∧ (∀ l, 0 ≤ l → l ≠ k → zAC (zDZ c k x) l = zAC c l) ∧ (∀ l, zB1 c l ≠ none → zB1 (zDZ c k x) l ≠ none) ∧ (zDZ c k x).1.length = c.1.length := by
 have := zNz h ha (x := x) (.inr hx);have e : zDZ c k x = (c.1.set (zAE c k) ((zAm c k).set j x), c.2) := by unfold zDZ; rw [ha]
 rw [e];exact ⟨this.1, this.2.1, this.2.2.1, this.2.2.2.1, this.2.2.2.2.2⟩
theorem zLX {c : zAu} (h : okc c) {k : Int} (h0 : 0 ≤ k) : (zCc c k < 0 ∧ zB1 c k ≠ none) ∨ (0 ≤ zCc c k ∧ zB1 c k = none ∧ zCc c k ≠ k ∧ (∃ j, atC c (zCc c k) = some j) ∧ zB1 (zCY c (zCc c k)) k ≠ none) := by
 cases b : zB1 c k with
 | some j => exact .inl ⟨by unfold zCc; rw [b]; show (-1 : Int) < 0; decide, by simp⟩
 | none =>
  obtain ⟨j, u, hu, e, i, g, a, d⟩ := zJS (ln := isL) (tok := zAJ) (vic := goI) env_vic h b h0;have f : zCc c k = u.1 := by unfold zCc; rw [b]; show ((zAm c k).getD _ zAF).1 = _; rw [e]
  rw [f];exact .inr ⟨(zBY i).1, rfl, a, ⟨j, d⟩, (zI5 h d).2.2.2.2.1 k g.symm⟩
theorem zEa {c : CoreS} (h0 : 0 ≤ c.at_) (h1 : c.at_ < c.prog.length) : zBw c ∈ c.prog := by
 unfold zBw;have : c.at_.toNat < c.prog.length := by omega
 rw [List.getD_eq_getElem?_getD, List.getElem?_eq_getElem this];exact List.getElem_mem this
theorem zED {o : OpD} (h : zNw o = true) : (1 ≤ o.1 ∧ o.1 ≤ 5) ∧ (0 ≤ o.2.1 ∧ o.2.1 ≤ 31) ∧ (0 ≤ o.2.2.1 ∧ o.2.2.1 ≤ 9999) ∧ (0 ≤ o.2.2.2 ∧ o.2.2.2 ≤ 9999) := by
 simp only [zNw, zBN, opB, zAP, Bool.and_eq_true, decide_eq_true_eq] at h;obtain ⟨c, d, b, a⟩ := h;refine ⟨c, d, ?_, ?_⟩
 ·unfold zDV at b; split at b <;> omega
 ·unfold zEu at a; split at a <;> omega
theorem zGQ {o : OpD} (h : zNw o = true) : 0 ≤ zBe o ∧ zBe o ≤ 15 := by
 have := zED h; unfold zBe; omega
theorem zI6 {d : List Int} (h : isL d = true) : ∃ a b, d = [a, b] ∧ (0 ≤ a ∧ a ≤ 9999) ∧ (0 ≤ b ∧ b ≤ 9999) := by
 match d, h with
 | [a, b], h => simp only [isL, okW, zAP, Bool.and_eq_true, decide_eq_true_eq] at h; exact ⟨a, b, rfl, h.1, h.2⟩
theorem zI7 {o : OpD} (h : zNw o = true) {z : Int} (hz : 0 ≤ z ∧ z ≤ 9999) : 0 ≤ (zIH o z).1 ∧ (zIH o z).1 ≤ 9999 := by
 have := zED h;unfold zIH zC0;dsimp only
 repeat' split
 all_goals omega
def zHH (o : OpD) (d : List Int) : List Int := d.set (o.2.1 % 2).toNat (zIH o (d.getD (o.2.1 % 2).toNat 0)).1
theorem zGR {o : OpD} (h : zNw o = true) {d : List Int} (hd : isL d = true) : isL (zHH o d) = true := by
 obtain ⟨a, b, rfl, f, c⟩ := zI6 hd;have hp := zED h;have : o.2.1 % 2 = 0 ∨ o.2.1 % 2 = 1 := by omega
 rcases this with e | e
 ·have := zI7 h f;simp [zHH, e, isL, okW, zAP]; exact ⟨this, c⟩
 ·have := zI7 h c;simp [zHH, e, isL, okW, zAP]; exact ⟨f, this⟩
def zJt (c : CoreS) : Bool := if c.phase = 1 then (zEf c.held || zBh isL c.held) && decide (atC c.cache c.held.1 = none) else zB7 c.held
noncomputable def coreBS (c : CoreS) : Bool := okB isL zAJ c.cache && (decide (c.prog.length ≤ 30) && (zAP c.at_ 0 c.prog.length && (decide ((c.told.length : Int) = c.at_) && (zAP c.phase 0 2 && (!(decide (c.phase = 2) && decide (c.at_ = c.prog.length)) && (c.prog.all zNw && zJt c))))))
structure CoreP (c : CoreS) : Prop where
 ok : okc c.cache
 len : c.prog.length ≤ 30
 at0 : 0 ≤ c.at_
 at1 : c.at_ ≤ c.prog.length
 told : (c.told.length : Int) = c.at_
 ph : c.phase = 0 ∨ c.phase = 1 ∨ c.phase = 2
 wait : c.phase = 2 → c.at_ < c.prog.length
 ops : ∀ o ∈ c.prog, zNw o = true
 held : zJt c = true
theorem zI8 {c : CoreS} : coreBS c = true ↔ CoreP c := by
 unfold coreBS;simp only [Bool.and_eq_true, zCK, decide_eq_true_eq, zAP, Bool.not_eq_true', Bool.and_eq_false_iff, decide_eq_false_iff_not, List.all_eq_true];constructor
 ·rintro ⟨i, d, b, g, k, a, j, f⟩;exact ⟨i, d, b.1, b.2, g, by omega, fun e => by rcases a with a | a <;> omega, j, f⟩
 ·rintro ⟨i, d, b, g, k, a, j, f, l⟩;refine ⟨i, d, ⟨b, g⟩, k, by omega, ?_, f, l⟩;by_cases e : c.phase = 2
  ·exact .inr (by have := j e; omega)
  ·exact .inl e
theorem zDo {c : CoreS} (h : CoreP c) (hp : c.phase ≠ 1) : c.held = zAF := by
 have := h.held;unfold zJt at this;rw [if_neg hp] at this;exact zCQ this
theorem zCE {c : CoreS} (h : CoreP c) (hp : c.phase = 1) : (0 ≤ c.held.1 ∧ c.held.1 ≤ 15) ∧ ((c.held.2.1 = 0 ∧ c.held.2.2 = []) ∨ zBh isL c.held = true) ∧ atC c.cache c.held.1 = none := by
 have := h.held;unfold zJt at this;rw [if_pos hp] at this;simp only [Bool.and_eq_true, Bool.or_eq_true, decide_eq_true_eq, zEf, zAP] at this;obtain ⟨a | a, b⟩ := this
 ·exact ⟨a.1, .inl ⟨a.2.1, List.eq_nil_of_length_eq_zero a.2.2⟩, b⟩
 ·exact ⟨(zBY a), .inr a, b⟩
theorem zK1 {c : CoreS} (hp : c.phase = 1) (h0 : 0 ≤ c.held.1 ∧ c.held.1 ≤ 15) (a : (c.held.2.1 = 0 ∧ c.held.2.2 = []) ∨ zBh isL c.held = true) (h2 : atC c.cache c.held.1 = none) : zJt c = true := by
 unfold zJt;rw [if_pos hp];simp only [Bool.and_eq_true, Bool.or_eq_true, decide_eq_true_eq, zEf, zAP];refine ⟨?_, h2⟩;rcases a with a | a
 ·exact .inl ⟨h0, a.1, by rw [a.2]; rfl⟩
 ·exact .inr a
theorem zFw {c : CoreS} (hp : c.phase ≠ 1) (h : c.held = zAF) : zJt c = true := by
 unfold zJt;rw [if_neg hp, h];exact zDM
theorem ph_same {c : CoreS} (h : c.phase = 0) : ({ c with phase := 0 } : CoreS) = c := by
 obtain ⟨a, b, d, p, f, g⟩ := c;have : p = 0 := h;subst this;rfl
theorem zN0 {c c' : CoreS} {u : zAT} (h : CoreP c) (hp : c.phase ≠ 1) (h1 : c.at_ < c.prog.length) (hu : zBh isL u = true) (hd : doS c u = some c') :
    CoreP { c' with phase := 0 } ∧ c'.phase = c.phase ∧ c'.held = c.held ∧ c'.prog = c.prog ∧ c'.at_ = c.at_ + 1 ∧ zCl u.2.1 (zCV (zBw c)) = 0 ∧ zAC c'.cache u.1 = (u.1, (if zCV (zBw c) then 3 else u.2.1), zHH (zBw c) u.2.2) := by
 have ho := h.ops _ (zEa h.at0 h1);unfold doS at hd;dsimp only at hd
 by_cases a : zCl u.2.1 (zCV (zBw c)) = 0
 ·rw [if_pos a] at hd;split at hd
  ·rename_i cc hf
   cases hd;obtain ⟨b, q2, d, q4, q5⟩ := fill_way h.ok hf;refine ⟨⟨b, h.len, ?_, ?_, ?_, .inl rfl, fun e => ?_, h.ops, zFw (by simp) (zDo (c := c) h hp)⟩, rfl, rfl, rfl, rfl, a, d⟩
   ·show 0 ≤ c.at_ + 1; have := h.at0; omega
   ·show c.at_ + 1 ≤ (c.prog.length : Int); omega
   ·show ((c.told ++ [_]).length : Int) = c.at_ + 1
    rw [List.length_append, List.length_singleton];have := h.told;omega
   ·cases e
  ·cases hd
 ·rw [if_neg a] at hd; cases hd
theorem zI9 {c : zAu} (h : okc c) {k : Int} {j : Nat} (ha : atC c k = some j) : 0 ≤ k ∧ k ≤ 15 ∧ (zAC c k).1 = k ∧ zBh isL (zAC c k) = true ∧ 1 ≤ (zAC c k).2.1 ∧ (zAC c k).2.1 ≤ 3 ∧ isL (zAC c k).2.2 = true := by
 obtain ⟨f, _, d, b⟩ := zFv h ha;have a := zB0 b;exact ⟨f, by have := a.1.2; omega, d, b, a.2.1.1, a.2.1.2, a.2.2⟩
theorem zLo {d : List Int} (h : isL d = true) : d ≠ [] := by
 intro e;subst e;simp [isL] at h
def zJu (l : List zB5) : Prop := l.length ≤ 1 ∧ ∀ m ∈ l, msgB m = true
theorem zFx : zJu [] := ⟨by simp, by simp⟩
theorem zFy {m : zB5} (h : msgB m = true) : zJu [m] := ⟨by simp, by simpa using h⟩
theorem zJv {road frm tgt kind line flag : Int} {d : List Int} (h1 : 0 ≤ road ∧ road ≤ 2) (h2 : 0 ≤ frm ∧ frm ≤ 5) (h3 : 0 ≤ tgt ∧ tgt ≤ 5) (h4 : 1 ≤ kind ∧ kind ≤ 15) (h5 : 0 ≤ line ∧ line ≤ 15) (a : d = [] ∨ isL d = true) (h7 : 0 ≤ flag ∧ flag ≤ 15) : msgB (msg road frm tgt kind line d flag) = true := by
 have b : zLW d = true := by
  unfold zLW;rcases a with rfl | a
  ·rfl
  ·rw [a, Bool.or_true]
 unfold msgB msg endsB;dsimp only
 rw [b];simp [zAP]
 omega
theorem asks_two {s : Int} {w : Bool} (hs : 0 ≤ s ∧ s ≤ 3) (h : zCl s w ≠ 0) : (zCl s w = 2 ↔ w = true) := by
 obtain ⟨h0, h1⟩ := hs;have a : zAP s 0 3 = true := by simp [zAP]; omega
 unfold zCl at h ⊢;rw [if_pos a] at h ⊢;cases w
 ·simp only [Bool.false_eq_true, if_false, iff_false];unfold readI;split <;> decide
 ·simp only [if_true, iff_true] at h ⊢;unfold zMC at h ⊢;split at h
  ·rename_i e; rw [if_pos e]
  ·exact absurd rfl h
theorem zLY {c : CoreS} (h : CoreP c) {id : Int} (hid : 0 ≤ id ∧ id ≤ 3) :
    CoreP (zBT c id).1 ∧ zJu (zBT c id).2.1 ∧
    (((zBT c id).2.2 = 0 ∧ (zBT c id).1 = c ∧ (zBT c id).2.1 = [] ∧ (c.phase ≠ 0 ∨ c.at_ = c.prog.length)) ∨
     ((zBT c id).2.2 = 1 ∧ (zBT c id).1.at_ = c.at_ + 1 ∧ (zBT c id).2.1 = [] ∧ (zBT c id).1.phase = 0) ∨
     ((zBT c id).2.2 = 2 ∧ (zBT c id).1.phase = 1 ∧ atC (zBT c id).1.cache (zBT c id).1.held.1 = none ∧ zAC c.cache (zBT c id).1.held.1 = (zBT c id).1.held ∧ ∃ m, (zBT c id).2.1 = [m] ∧ zBm m = 3 ∧ (zBJ m ≠ [] ↔ 2 ≤ (zBT c id).1.held.2.1)) ∨
     ((zBT c id).2.2 = 3 ∧ (zBT c id).1.phase = 2 ∧ (zBT c id).1.cache = c.cache ∧ ∃ m, (zBT c id).2.1 = [m] ∧ (zBm m = 2 ↔ zCV (zBw c) = true))) := by
 by_cases g : c.phase ≠ 0 ∨ c.at_ = c.prog.length
 ·have e : zBT c id = (c, [], 0) := by unfold zBT; rw [if_pos g]
  rw [e];exact ⟨h, zFx, .inl ⟨rfl, rfl, rfl, g⟩⟩
 ·have E : c.phase = 0 := Classical.byContradiction fun e => g (.inl e);have k : c.at_ < c.prog.length := by
   have := h.at1;have : c.at_ ≠ c.prog.length := fun e => g (.inr e);omega
  have C := h.ops _ (zEa h.at0 k);have L := zGQ C;have p := zDo h (by omega);by_cases d : zCl (zAC c.cache (zBe (zBw c))).2.1 (zCV (zBw c)) = 0
  ·obtain ⟨n, s⟩ := zGO h.ok (zBe (zBw c));cases b : atC c.cache (zBe (zBw c)) with
   | none =>
    have := s.2 b;rw [this] at d;cases I : zCV (zBw c) <;> rw [I] at d <;> exact absurd d (by decide)
   | some j =>
    obtain ⟨G, D, l, r, M, N, o⟩ := zI9 h.ok b;have f : zB1 c.cache (zBe (zBw c)) ≠ none := zGP (.inl ⟨j, b⟩);have i : zBh isL ((zAC c.cache (zBe (zBw c))).1, (if zCV (zBw c) then (3 : Int) else (zAC c.cache (zBe (zBw c))).2.1), zHH (zBw c) (zAC c.cache (zBe (zBw c))).2.2) = true := by
     simp only [zBh, decide_eq_true_eq];refine ⟨by omega, ?_, zGR C o⟩;split <;> omega
    obtain ⟨F, B⟩ := zNy i (by show zB1 c.cache (zAC c.cache (zBe (zBw c))).1 ≠ none; rw [l]; exact f);have A : doS c (zAC c.cache (zBe (zBw c))) = some { c with cache := F, told := c.told ++ [(zIH (zBw c) ((zAC c.cache (zBe (zBw c))).2.2.getD ((zBw c).2.1 % 2).toNat 0)).2], at_ := c.at_ + 1 } := by
     unfold doS;dsimp only
     rw [if_pos d];unfold zHH at B;rw [B]
    obtain ⟨z, J, g3, g4, g5, g6, g7⟩ := zN0 h (by omega) k r A;have e : zBT c id = ({ c with cache := F, told := c.told ++ [(zIH (zBw c) ((zAC c.cache (zBe (zBw c))).2.2.getD ((zBw c).2.1 % 2).toNat 0)).2], at_ := c.at_ + 1 }, [], 1) := by
     unfold zBT;rw [if_neg g];dsimp only
     rw [if_pos d, A];rfl
    rw [e];refine ⟨?_, zFx, .inr (.inl ⟨rfl, rfl, rfl, E⟩)⟩;rw [ph_same (J.trans E)] at z;exact z
  ·by_cases y : 0 ≤ zCc c.cache (zBe (zBw c))
   ·rcases zLX h.ok L.1 with ⟨K, _⟩ | ⟨K, w2, w3, ⟨j, v⟩, w5⟩
    ·omega
    ·obtain ⟨G, D, l, r, M, N, o⟩ := zI9 h.ok v;obtain ⟨H, O, d3, _, _, d6⟩ := zI5 h.ok v;have a : atC (zCY c.cache (zCc c.cache (zBe (zBw c)))) (zCc c.cache (zBe (zBw c))) = none := (zGO H _).2.1 (by rw [O]; rfl);have e : zBT c id = ({ c with held := zAC c.cache (zCc c.cache (zBe (zBw c))), cache := zCY c.cache (zCc c.cache (zBe (zBw c))), phase := 1 }, [if 2 ≤ (zAC c.cache (zCc c.cache (zBe (zBw c)))).2.1 then msg 0 id 4 3 (zCc c.cache (zBe (zBw c))) (zAC c.cache (zCc c.cache (zBe (zBw c)))).2.2 1 else msg 0 id 4 3 (zCc c.cache (zBe (zBw c))) [] 0], 2) := by
      unfold zBT;rw [if_neg g];dsimp only
      rw [if_neg d, if_pos y]
     rw [e];refine ⟨⟨H, h.len, h.at0, h.at1, h.told, .inr (.inl rfl), (fun e => by cases e), h.ops, zK1 rfl ?_ (.inr r) ?_⟩, zFy ?_, .inr (.inr (.inl ⟨rfl, rfl, ?_, ?_, _, rfl, ?_, ?_⟩))⟩
     ·show 0 ≤ (zAC c.cache _).1 ∧ (zAC c.cache _).1 ≤ 15; rw [l]; exact ⟨G, D⟩
     ·show atC (zCY c.cache _) (zAC c.cache _).1 = none; rw [l]; exact a
     ·split
      ·exact zJv (by omega) (by omega) (by omega) (by omega) (by omega) (.inr o) (by omega)
      ·exact zJv (by omega) (by omega) (by omega) (by omega) (by omega) (.inl rfl) (by omega)
     ·show atC (zCY c.cache _) (zAC c.cache _).1 = none; rw [l]; exact a
     ·show zAC c.cache (zAC c.cache _).1 = zAC c.cache _; rw [l]
     ·split <;> rfl
     ·show zBJ _ ≠ [] ↔ 2 ≤ (zAC c.cache _).2.1
      split
      ·rename_i e2; exact ⟨fun _ => e2, fun _ => zLo o⟩
      ·rename_i e2; exact ⟨fun q => absurd rfl q, fun q => absurd q e2⟩
   ·have e : zBT c id = ({ c with phase := 2 }, [msg 0 id 4 (if zCl (zAC c.cache (zBe (zBw c))).2.1 (zCV (zBw c)) = 2 then 2 else 1) (zBe (zBw c)) [] 0], 3) := by
      unfold zBT;rw [if_neg g];dsimp only
      rw [if_neg d, if_neg y]
    rw [e];refine ⟨⟨h.ok, h.len, h.at0, h.at1, h.told, .inr (.inr rfl), fun _ => k, h.ops, zFw (by simp) p⟩, zFy ?_, .inr (.inr (.inr ⟨rfl, rfl, rfl, _, rfl, ?_⟩))⟩
    ·refine zJv (by omega) (by omega) (by omega) ?_ (by omega) (.inl rfl) (by omega);split <;> omega
    ·have n := (zGO h.ok (zBe (zBw c))).1;show (if zCl _ _ = 2 then (2 : Int) else 1) = 2 ↔ _
     rw [← asks_two n d];split
     ·rename_i e2; simp [e2]
     ·rename_i e2; simp [e2]
theorem zN1 {c : zAu} (h : okc c) {k : Int} (e : (zAC c k).2.1 = 0) : atC c k = none := (zGO h k).2.1 e
def AskP (c : CoreS) (id : Int) (m : zB5) (r : CoreS × zB5) : Prop :=
 CoreP r.1 ∧ msgB r.2 = true ∧ zAt r.2 = zAt m ∧ (zBm r.2 = 8 ∨ zBm r.2 = 9) ∧ (zBm r.2 = 8 ↔ zBJ r.2 ≠ []) ∧ (zAC r.1.cache (zAt m)).2.1 < 2 ∧ (zBm m = 7 → (zAC r.1.cache (zAt m)).2.1 = 0) ∧
  (zB9 r.2 = 1 ↔ (zAC r.1.cache (zAt m)).2.1 = 0 ∧ (r.1.phase ≠ 1 ∨ r.1.held.1 ≠ zAt m ∨ r.1.held.2.1 = 0)) ∧ (zAI r.1 id m).1 = r.1 ∧ zBm (zAI r.1 id m).2 = 9
theorem zLZ {c : CoreS} (h : CoreP c) {id : Int} (hid : 0 ≤ id ∧ id ≤ 3) {m : zB5} (s : zBm m = 6 ∨ zBm m = 7) (hl : 0 ≤ zAt m ∧ zAt m ≤ 15) : AskP c id m (zAI c id m) := by
 have g : ∀ k fl : Int, ∀ d : List Int, (k = 8 ∨ k = 9) → (fl = 0 ∨ fl = 1) → (d = [] ∨ isL d = true) → msgB (msg 2 id 4 k (zAt m) d fl) = true := fun k fl d O S K => zJv (by omega) (by omega) (by omega) (by omega) (by omega) K (by omega);cases b : atC c.cache (zAt m) with
 | some j =>
  obtain ⟨f0, f1, Z, f3, f4, f5, D⟩ := zI9 h.ok b;have R : c.phase = 1 → c.held.1 ≠ zAt m := fun f e => by
   have := (zCE h f).2.2;rw [e, b] at this;cases this
  have v : ∀ I : zAu, okc I → (∀ l, 0 ≤ l → l ≠ zAt m → zAC I l = zAC c.cache l) → CoreP { c with cache := I } := by
   intro I ok X;refine ⟨ok, h.len, h.at0, h.at1, h.told, h.ph, h.wait, h.ops, ?_⟩;by_cases f : c.phase = 1
   ·obtain ⟨E, G, A⟩ := zCE h f;refine zK1 f E G (zN1 ok ?_);show (zAC I c.held.1).2.1 = 0
    rw [X _ E.1 (R f)];exact (zGO h.ok _).2.2 A
   ·exact zFw f (zDo (c := c) h f)
  rcases s with s | s
  ·-- it is read
   by_cases n : 2 ≤ (zAC c.cache (zAt m)).2.1
   ·obtain ⟨F, o, M, _, _⟩ := set_way h.ok b (x := ((zAC c.cache (zAt m)).1, 1, (zAC c.cache (zAt m)).2.2)) ⟨by
      simp only [zBh, decide_eq_true_eq]
      exact ⟨by omega, by omega, D⟩, Z⟩
    have e : zAI c id m = ({ c with cache := zDZ c.cache (zAt m) ((zAC c.cache (zAt m)).1, 1, (zAC c.cache (zAt m)).2.2) }, msg 2 id 4 8 (zAt m) (zAC c.cache (zAt m)).2.2 0) := by
     unfold zAI;dsimp only
     rw [b];dsimp only
     rw [if_neg (by omega), if_pos n, if_pos n, if_pos n]
    have p : ∃ i, atC (zDZ c.cache (zAt m) ((zAC c.cache (zAt m)).1, 1, (zAC c.cache (zAt m)).2.2)) (zAt m) = some i := by
     cases V : atC (zDZ c.cache (zAt m) ((zAC c.cache (zAt m)).1, 1, (zAC c.cache (zAt m)).2.2)) (zAt m) with
     | some i => exact ⟨i, rfl⟩
     | none =>
      have := (zGO F _).2.2 V;rw [o] at this;cases this
    obtain ⟨i, p⟩ := p;rw [e];refine ⟨v _ F M, g 8 0 _ (.inl rfl) (.inl rfl) (.inr D), rfl, .inl rfl, ⟨fun _ => zLo D, fun _ => rfl⟩, ?_, fun q => by omega, ?_, ?_, ?_⟩
    ·show (zAC (zDZ c.cache _ _) _).2.1 < 2; rw [o]; show (1 : Int) < 2; omega
    ·show (0 : Int) = 1 ↔ (zAC (zDZ c.cache _ _) _).2.1 = 0 ∧ _
     rw [o];constructor
     ·intro q; omega
     ·rintro ⟨q, _⟩; exact absurd (show (1 : Int) = 0 from q) (by decide)
    ·unfold zAI;dsimp only
     rw [p];dsimp only
     rw [if_neg (by omega), o, if_neg (show ¬ (2 : Int) ≤ 1 by decide)]
    ·unfold zAI;dsimp only
     rw [p];dsimp only
     rw [if_neg (by omega), o, if_neg (show ¬ (2 : Int) ≤ 1 by decide)];rfl
   ·have e : zAI c id m = (c, msg 2 id 4 9 (zAt m) [] 0) := by
      unfold zAI;dsimp only
      rw [b];dsimp only
      rw [if_neg (by omega), if_neg n, if_neg n, if_neg n]
    have E : (zAI c id m).1 = c := by rw [e]
    have G : (zAI c id m).2 = msg 2 id 4 9 (zAt m) [] 0 := by rw [e]
    rw [e];refine ⟨h, g 9 0 _ (.inr rfl) (.inl rfl) (.inl rfl), rfl, .inr rfl, ⟨fun q => absurd (show (9 : Int) = 8 from q) (by decide), fun q => absurd rfl q⟩, by show (zAC c.cache _).2.1 < 2; omega, fun q => by omega, ?_, ?_, ?_⟩
    ·show (0 : Int) = 1 ↔ (zAC c.cache _).2.1 = 0 ∧ _
     constructor
     ·intro q; omega
     ·rintro ⟨q, _⟩; omega
    ·exact E
    ·show zBm (zAI c id m).2 = 9; rw [G]; rfl
  ·-- it is written
   obtain ⟨F, o, M, _, _, _⟩ := zI5 h.ok b;have e : zAI c id m = ({ c with cache := zCY c.cache (zAt m) }, msg 2 id 4 (if 2 ≤ (zAC c.cache (zAt m)).2.1 then 8 else 9) (zAt m) (if 2 ≤ (zAC c.cache (zAt m)).2.1 then (zAC c.cache (zAt m)).2.2 else []) 1) := by
    unfold zAI;dsimp only
    rw [b];dsimp only
    rw [if_pos s]
   have p : atC (zCY c.cache (zAt m)) (zAt m) = none := zN1 F (by rw [o]; rfl);have A : zAI { c with cache := zCY c.cache (zAt m) } id m = ({ c with cache := zCY c.cache (zAt m) }, msg 2 id 4 9 (zAt m) [] 1) := by
    unfold zAI;dsimp only
    rw [p];dsimp only
    rw [if_neg (fun q => R q.1 q.2.1)]
   rw [e];refine ⟨v _ F M, ?_, rfl, ?_, ?_, ?_, fun _ => ?_, ?_, ?_, ?_⟩
   ·refine g _ 1 _ ?_ (.inr rfl) ?_
    ·split
     ·exact .inl rfl
     ·exact .inr rfl
    ·split
     ·exact .inr D
     ·exact .inl rfl
   ·show (if _ then (8 : Int) else 9) = 8 ∨ (if _ then (8 : Int) else 9) = 9
    split
    ·exact .inl rfl
    ·exact .inr rfl
   ·show (if _ then (8 : Int) else 9) = 8 ↔ (if _ then (zAC c.cache (zAt m)).2.2 else []) ≠ []
    split
    ·exact ⟨fun _ => zLo D, fun _ => rfl⟩
    ·exact ⟨fun q => absurd (show (9 : Int) = 8 from q) (by decide), fun q => absurd rfl q⟩
   ·show (zAC (zCY c.cache _) _).2.1 < 2; rw [o]; decide
   ·show (zAC (zCY c.cache _) _).2.1 = 0; rw [o]; rfl
   ·show (1 : Int) = 1 ↔ (zAC (zCY c.cache _) _).2.1 = 0 ∧ _
    rw [o];refine ⟨fun _ => ⟨rfl, ?_⟩, fun _ => rfl⟩;by_cases f : c.phase = 1
    ·exact .inr (.inl (R f))
    ·exact .inl f
   ·rw [A]
   ·rw [A]; rfl
 | none =>
  have r := (zGO h.ok (zAt m)).2.2 b;have ew : zAC c.cache (zAt m) = zAF := zGr b;by_cases f : c.phase = 1 ∧ c.held.1 = zAt m ∧ c.held.2.1 ≠ 0
  ·obtain ⟨y, J, C⟩ := f;obtain ⟨E, G, A⟩ := zCE h y;have Y : zBh isL c.held = true := G.resolve_left (fun q => C q.1);have z := zB0 Y;have H : CoreP { c with held := (zAt m, 0, []) } := ⟨h.ok, h.len, h.at0, h.at1, h.told, h.ph, h.wait, h.ops, zK1 y hl (.inl ⟨rfl, rfl⟩) b⟩;have T : zAI { c with held := (zAt m, 0, []) } id m = ({ c with held := (zAt m, 0, []) }, msg 2 id 4 9 (zAt m) [] 1) := by
    unfold zAI;dsimp only
    rw [b];dsimp only
    rw [if_neg (fun q => q.2.2 rfl)]
   have B : ∀ k : Int, ∀ d : List Int, (k = 8 ∨ k = 9) → (d = [] ∨ isL d = true) → (k = 8 ↔ d ≠ []) → AskP c id m ({ c with held := (zAt m, 0, []) }, msg 2 id 4 k (zAt m) d 1) := by
    intro k d O S K;refine ⟨H, g k 1 d O (.inr rfl) S, rfl, O, K, ?_, fun _ => r, ⟨fun _ => ⟨r, .inr (.inr rfl)⟩, fun _ => rfl⟩, ?_, ?_⟩
    ·show (zAC c.cache _).2.1 < 2; omega
    ·show (zAI { c with held := (zAt m, 0, []) } id m).1 = _; rw [T]
    ·show zBm (zAI { c with held := (zAt m, 0, []) } id m).2 = 9; rw [T]; rfl
   by_cases n : 2 ≤ c.held.2.1
   ·have e : zAI c id m = ({ c with held := (zAt m, 0, []) }, msg 2 id 4 8 (zAt m) c.held.2.2 1) := by
      unfold zAI;dsimp only
      rw [b];dsimp only
      rw [if_pos ⟨y, J, C⟩, if_pos n]
    rw [e];exact B 8 _ (.inl rfl) (.inr z.2.2) ⟨fun _ => zLo z.2.2, fun _ => rfl⟩
   ·rcases s with s | s
    ·have e : zAI c id m = (c, msg 2 id 4 9 (zAt m) [] 0) := by
       unfold zAI;dsimp only
       rw [b];dsimp only
       rw [if_pos ⟨y, J, C⟩, if_neg n, if_pos s]
     have N : (zAI c id m).1 = c := by rw [e]
     have L : (zAI c id m).2 = msg 2 id 4 9 (zAt m) [] 0 := by rw [e]
     rw [e];refine ⟨h, g 9 0 _ (.inr rfl) (.inl rfl) (.inl rfl), rfl, .inr rfl, ⟨fun q => absurd (show (9 : Int) = 8 from q) (by decide), fun q => absurd rfl q⟩, by show (zAC c.cache _).2.1 < 2; omega, fun q => by omega, ?_, N, ?_⟩
     ·constructor
      ·intro q; exact absurd (show (0 : Int) = 1 from q) (by decide)
      ·rintro ⟨_, q | q | q⟩
       ·exact absurd y q
       ·exact absurd J q
       ·exact absurd q C
     ·show zBm (zAI c id m).2 = 9; rw [L]; rfl
    ·have e : zAI c id m = ({ c with held := (zAt m, 0, []) }, msg 2 id 4 9 (zAt m) [] 1) := by
       unfold zAI;dsimp only
       rw [b];dsimp only
       rw [if_pos ⟨y, J, C⟩, if_neg n, if_neg (by omega)]
     rw [e];exact B 9 _ (.inr rfl) (.inl rfl) ⟨fun q => absurd (show (9 : Int) = 8 from q) (by decide), fun q => absurd rfl q⟩
  ·have e : zAI c id m = (c, msg 2 id 4 9 (zAt m) [] 1) := by
     unfold zAI;dsimp only
     rw [b];dsimp only
     rw [if_neg f]
   have N : (zAI c id m).1 = c := by rw [e]
   have L : (zAI c id m).2 = msg 2 id 4 9 (zAt m) [] 1 := by rw [e]
   rw [e];refine ⟨h, g 9 1 _ (.inr rfl) (.inr rfl) (.inl rfl), rfl, .inr rfl, ⟨fun q => absurd (show (9 : Int) = 8 from q) (by decide), fun q => absurd rfl q⟩, by show (zAC c.cache _).2.1 < 2; omega, fun _ => r, ?_, N, ?_⟩
   ·refine ⟨fun _ => ⟨r, ?_⟩, fun _ => rfl⟩;show c.phase ≠ 1 ∨ c.held.1 ≠ zAt m ∨ c.held.2.1 = 0
    by_cases U : c.phase = 1
    ·by_cases p : c.held.1 = zAt m
     ·exact .inr (.inr (Classical.byContradiction fun a3 => f ⟨U, p, a3⟩))
     ·exact .inr (.inl p)
    ·exact .inl U
   ·show zBm (zAI c id m).2 = 9; rw [L]; rfl
def GetP (c : CoreS) (id : Int) (m : zB5) (r : CoreS × List zB5 × Int) : Prop := CoreP r.1 ∧ zJu r.2.1 ∧
    ((r.2.2 = 0 ∧ r.1 = c ∧ r.2.1 = []) ∨
     (r.2.2 = 2 ∧ c.at_ < c.prog.length ∧ r.1.at_ = c.at_ + 1 ∧ r.1.phase = 0 ∧ (∃ a, r.2.1 = [a] ∧ zBm a = 10) ∧ zCl (zAC r.1.cache (zAt m)).2.1 (zCV (zBw c)) = 0) ∨
     (r.2.2 = 1 ∧ zBm m = 12) ∨
     (r.2.2 = 1 ∧ (zBm m = 6 ∨ zBm m = 7) ∧ (0 ≤ zAt m ∧ zAt m ≤ 15) ∧ r.1 = (zAI c id m).1 ∧ r.2.1 = [(zAI c id m).2] ∧ AskP c id m (zAI c id m) ∧ zBO (zAI c id m).1 id m = ((zAI c id m).1, [(zAI (zAI c id m).1 id m).2], 1)))
theorem zLp {c : CoreS} (h : CoreP c) {id : Int} (hid : 0 ≤ id ∧ id ≤ 3) (m : zB5) : GetP c id m (zBO c id m) := by
 have a : zBO c id m = (c, [], 0) → GetP c id m (zBO c id m) := fun e => by rw [e]; exact ⟨h, zFx, .inl ⟨rfl, rfl, rfl⟩⟩
 by_cases d : zBm m = 6 ∨ zBm m = 7
 ·by_cases l : zAP (zAt m) 0 15 = true
  ·have k : 0 ≤ zAt m ∧ zAt m ≤ 15 := by simpa [zAP] using l
   have A := zLZ h hid d k;have e : zBO c id m = ((zAI c id m).1, [(zAI c id m).2], 1) := by unfold zBO; rw [if_pos d, if_pos l]
   have D : zBO (zAI c id m).1 id m = ((zAI c id m).1, [(zAI (zAI c id m).1 id m).2], 1) := by
    unfold zBO;rw [if_pos d, if_pos l, A.2.2.2.2.2.2.2.2.1]
   rw [e];exact ⟨A.1, zFy A.2.1, .inr (.inr (.inr ⟨rfl, d, k, rfl, rfl, A, D⟩))⟩
  ·exact a (by unfold zBO; rw [if_pos d, if_neg l])
 ·by_cases b : zBm m = 12
  ·by_cases j : c.phase ≠ 1 ∨ c.held.1 ≠ zAt m
   ·exact a (by unfold zBO; rw [if_neg d, if_pos b, if_pos j])
   ·have e : zBO c id m = ({ c with phase := 0, held := zAF }, [], 1) := by unfold zBO; rw [if_neg d, if_pos b, if_neg j]
    rw [e];exact ⟨⟨h.ok, h.len, h.at0, h.at1, h.told, .inl rfl, (fun q => by cases q), h.ops, zFw (by simp) rfl⟩, zFx, .inr (.inr (.inl ⟨rfl, b⟩))⟩
  ·by_cases f : zBm m = 11
   ·by_cases j : c.phase ≠ 2 ∨ zBe (zBw c) ≠ zAt m ∨ isL (zBJ m) = false ∨ zAP (zB9 m) 1 3 = false
    ·exact a (by unfold zBO; rw [if_neg d, if_neg b, if_pos f, if_pos j])
    ·simp only [not_or, ne_eq, Classical.not_not, Bool.not_eq_false] at j;obtain ⟨p, v, o, n⟩ := j;have i := h.wait p;have G := h.ops _ (zEa h.at0 i);have l := zGQ G;have E : zAP (zB9 m) 1 3 = true := n;have s : 1 ≤ zB9 m ∧ zB9 m ≤ 3 := by simpa [zAP] using E
     have g : zBh isL (zAt m, zB9 m, zBJ m) = true := by
      simp only [zBh, decide_eq_true_eq];exact ⟨by omega, s, o⟩
     cases r : doS c (zAt m, zB9 m, zBJ m) with
     | a => exact a (by unfold zBO; rw [if_neg d, if_neg b, if_pos f, if_neg (by simp [p, v, o, n]), r])
     | some c' =>
      obtain ⟨C, g2, g3, g4, B, y, F⟩ := zN0 h (by omega) i g r;have e : zBO c id m = ({ c' with phase := 0 }, [msg 2 id 4 10 (zAt m) [] 0], 2) := by unfold zBO; rw [if_neg d, if_neg b, if_pos f, if_neg (by simp [p, v, o, n]), r]
      rw [e];refine ⟨C, zFy (zJv (by omega) (by omega) (by omega) (by omega) (by omega) (.inl rfl) (by omega)), .inr (.inl ⟨rfl, i, B, rfl, ⟨_, rfl, rfl⟩, ?_⟩)⟩;show zCl (zAC c'.cache (zAt m)).2.1 (zCV (zBw c)) = 0
      rw [F];show zCl (if zCV (zBw c) then 3 else zB9 m) (zCV (zBw c)) = 0
      cases z : zCV (zBw c)
      ·rw [z] at y; exact y
      ·rw [if_pos rfl]; decide
   ·exact a (by unfold zBO; rw [if_neg d, if_neg b, if_neg f])
#print axioms zLY
#print axioms zLp
end Go.Proofs.YtmdhblhdfcocjaaGreatDoor
