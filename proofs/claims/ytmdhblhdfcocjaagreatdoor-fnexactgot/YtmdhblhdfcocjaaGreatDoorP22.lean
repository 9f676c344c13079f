import Derived.Test.YtmdhblhdfcocjaaGreatDoorP00Box
import Derived.Test.YtmdhblhdfcocjaaGreatDoorP21
namespace Go.Proofs.YtmdhblhdfcocjaaGreatDoor
set_option linter.unusedVariables false
def zBm (m : zB5) : Int := m.2.2.2.1
def zAt (m : zB5) : Int := m.2.2.2.2.1
def zBJ (m : zB5) : List Int := m.2.2.2.2.2.1
def zB9 (m : zB5) : Int := m.2.2.2.2.2.2
def msg (road frm tgt kind line : Int) (data : List Int) (flag : Int) : zB5 := (road, frm, tgt, kind, line, data, flag)
abbrev zNw (o : OpD) : Bool := zBN o
def zCV (o : OpD) : Bool := zNw o && decide (o.1 ≠ 1)
def zBe (o : OpD) : Int := o.2.1 / 2
def zII (o : OpD) (z : Int) : Int × Int := (zC0 o.1 o.2.2.1 o.2.2.2 z, zCt o.1 z)
theorem zGN : ∀ t n y : Int, zAJ t n = true → 0 ≤ y → y < n → zAJ (zCU t n y) n = true := fun _ _ _ h0 h1 h2 => zMW h0 h1 h2
theorem env_vic : ∀ t n : Int, zAJ t n = true → 0 ≤ goI t n ∧ goI t n < n := fun _ _ h => ⟨(go_in h).1, (go_in h).2.1⟩
structure CoreS where
 cache : zAu
 prog : List OpD
 at_ : Int
 phase : Int
 held : zAT
 told : List Int
 deriving DecidableEq
def zI5 (c : zAu) (u : zAT) : Option zAu := if zBi isL u then (match zB2 c u.1 with
 | some j => some (zCq zCU c u j)
 | none => none) else none
def zCY (c : zAu) (k : Int) : zAu := match atC c k with
 | some j => dropX c k j
 | none => c
def zDZ (c : zAu) (k : Int) (u : zAT) : zAu := match atC c k with
 | some j => (c.1.set (zAE c k) ((zAm c k).set j u), c.2)
 | none => c
def zCc (c : zAu) (k : Int) : Int := match zB2 c k with
 | some _ => -1
 | none => ((zAm c k).getD (goI (zBs c k) (zAm c k).length).toNat zAF).1
def zBv (c : CoreS) : OpD := c.prog.getD c.at_.toNat (0, 0, 0, 0)
def doS (c : CoreS) (u : zAT) : Option CoreS :=
 let o := zBv c
 if zCl u.2.1 (zCV o) = 0 then
  let r := zII o (u.2.2.getD (o.2.1 % 2).toNat 0)
  match zI5 c.cache (u.1, (if zCV o then 3 else u.2.1), u.2.2.set (o.2.1 % 2).toNat r.1) with
  | some cc => some { c with cache := cc, told := c.told ++ [r.2], at_ := c.at_ + 1 }
  | none => none
 else none
def zBT (c : CoreS) (id : Int) : CoreS × List zB5 × Int :=
 if c.phase ≠ 0 ∨ c.at_ = c.prog.length then (c, [], 0) else
 let o := zBv c
 let k := zBe o
 let u := zAC c.cache k
 if zCl u.2.1 (zCV o) = 0 then ((doS c u).getD c, [], 1)
 else if 0 ≤ zCc c.cache k then
  let out := zCc c.cache k
  let h := zAC c.cache out
  ({ c with held := h, cache := zCY c.cache out, phase := 1 }, [if 2 ≤ h.2.1 then msg 0 id 4 3 out h.2.2 1 else msg 0 id 4 3 out [] 0], 2)
 else ({ c with phase := 2 }, [msg 0 id 4 (if zCl u.2.1 (zCV o) = 2 then 2 else 1) k [] 0], 3)
def zAI (c : CoreS) (id : Int) (m : zB5) : CoreS × zB5 :=
 let k := zAt m
 let u := zAC c.cache k
 match atC c.cache k with
 | some _ =>
  let kd : Int := if 2 ≤ u.2.1 then 8 else 9
  let d := if 2 ≤ u.2.1 then u.2.2 else []
  if zBm m = 7 then ({ c with cache := zCY c.cache k }, msg 2 id 4 kd k d 1)
  else ({ c with cache := if 2 ≤ u.2.1 then zDZ c.cache k (u.1, 1, u.2.2) else c.cache }, msg 2 id 4 kd k d 0)
 | none =>
  if c.phase = 1 ∧ c.held.1 = k ∧ c.held.2.1 ≠ 0 then
   if 2 ≤ c.held.2.1 then ({ c with held := (k, 0, []) }, msg 2 id 4 8 k c.held.2.2 1)
   else if zBm m = 6 then (c, msg 2 id 4 9 k [] 0)
   else ({ c with held := (k, 0, []) }, msg 2 id 4 9 k [] 1)
  else (c, msg 2 id 4 9 k [] 1)
def zBO (c : CoreS) (id : Int) (m : zB5) : CoreS × List zB5 × Int :=
 if zBm m = 6 ∨ zBm m = 7 then
  if zAP (zAt m) 0 15 then ((zAI c id m).1, [(zAI c id m).2], 1) else (c, [], 0)
 else if zBm m = 12 then
  if c.phase ≠ 1 ∨ c.held.1 ≠ zAt m then (c, [], 0) else ({ c with phase := 0, held := zAF }, [], 1)
 else if zBm m = 11 then
  if c.phase ≠ 2 ∨ zBe (zBv c) ≠ zAt m ∨ isL (zBJ m) = false ∨ zAP (zB9 m) 1 3 = false then (c, [], 0)
  else match doS c (zAt m, zB9 m, zBJ m) with
   | some c' => ({ c' with phase := 0 }, [msg 2 id 4 10 (zAt m) [] 0], 2)
   | none => (c, [], 0)
 else (c, [], 0)
abbrev okc (c : zAu) : Prop := OkC isL zAJ c
theorem zEC {c : zAu} (h : okc c) (k : Int) : (zEV isL zAJ c k).1 = zAC c k := by
 unfold zEV zAC;rw [if_pos (zCK.2 h)];cases atC c k <;> rfl
theorem zGr {c : zAu} {k : Int} (h : atC c k = none) : zAC c k = zAF := by unfold zAC; rw [h]
theorem zLn {c : zAu} {k : Int} {j : Nat} (h : atC c k = some j) : zAC c k = (zAm c k).getD j zAF := by unfold zAC; rw [h]
theorem zNx {c : zAu} (h : okc c) (k : Int) : zIV isL c.1.length (zAE c k) (zAm c k) := by
 obtain ⟨h1, h2, m, hm, h3⟩ := h;exact (h3 _ _ (zDb h1)).2.2
theorem zFv {c : zAu} (h : okc c) {k : Int} {j : Nat} (ha : atC c k = some j) : 0 ≤ k ∧ (zAm c k)[j]? = some (zAC c k) ∧ (zAC c k).1 = k ∧ zBi isL (zAC c k) = true := by
 obtain ⟨h0, u, hu, he⟩ := zD1 ha;have e : zAC c k = u := by rw [zLn ha, zG4 hu]
 rw [e];refine ⟨h0, hu, he, ?_⟩;rcases (zNx h k).1 j u hu with hc | ⟨hf, _⟩
 ·have := zCQ hc; rw [this] at he; simp [zAF] at he; omega
 ·exact hf
theorem zB0 {u : zAT} (h : zBi isL u = true) : (0 ≤ u.1 ∧ u.1 ≤ 15) ∧ (1 ≤ u.2.1 ∧ u.2.1 ≤ 3) ∧ isL u.2.2 = true := by simpa [zBi] using h
theorem way_or {c : zAu} (h : okc c) (k : Int) : (atC c k = none ∧ zAC c k = zAF) ∨ (∃ j, atC c k = some j) ∧ 0 ≤ k ∧ (zAC c k).1 = k ∧ zBi isL (zAC c k) = true := by
 cases ha : atC c k with
 | none => exact .inl ⟨rfl, zGr ha⟩
 | some j => obtain ⟨h0, _, h1, h2⟩ := zFv h ha; exact .inr ⟨⟨j, rfl⟩, h0, h1, h2⟩
theorem zGO {c : zAu} (h : okc c) (k : Int) : (0 ≤ (zAC c k).2.1 ∧ (zAC c k).2.1 ≤ 3) ∧ ((zAC c k).2.1 = 0 ↔ atC c k = none) := by
 rcases way_or h k with ⟨h1, h2⟩ | ⟨⟨j, hj⟩, _, _, hf⟩
 ·rw [h2]; simp [zAF, h1]
 ·have := zB0 hf; rw [hj]; simp; omega
theorem fill_way {c c' : zAu} {u : zAT} (h : okc c) (hf : zI5 c u = some c') : okc c' ∧ zBi isL u = true ∧ zAC c' u.1 = u ∧ (∀ k, 0 ≤ k → k ≠ u.1 → zAC c' k = zAC c k) ∧ c'.1.length = c.1.length := by
 unfold zI5 at hf;split at hf
 ·rename_i hu
  cases hp : zB2 c u.1 with
  | none => rw [hp] at hf; cases hf
  | some j =>
   rw [hp] at hf;injection hf with hf
   subst hf;have hok := (zIb (ln := isL) (tok := zAJ) zGN h hu hp).1;refine ⟨hok, hu, ?_, fun k h0 hne => ?_, by simp [zCq]⟩
   ·have := zH8 (ln := isL) (tok := zAJ) zGN h hu hp;rw [← zEC hok, this]
   ·have := zL9 (ln := isL) (tok := zAJ) zGN h hu hp hne h0;rw [← zEC hok, ← zEC h, this]
 ·cases hf
theorem zNy {c : zAu} {u : zAT} (hu : zBi isL u = true) (hp : zB2 c u.1 ≠ none) : ∃ c', zI5 c u = some c' := by
 unfold zI5;rw [if_pos hu];cases h : zB2 c u.1 with
 | none => exact absurd h hp
 | some j => exact ⟨_, rfl⟩
theorem zGP {c : zAu} {k : Int} (h : (∃ j, atC c k = some j) ∨ ∃ j, zJQ c k = some j) : zB2 c k ≠ none := by
 unfold zB2;cases ha : atC c k with
 | some j => simp
 | none =>
  rcases h with ⟨j, hj⟩ | ⟨j, hj⟩
  ·rw [ha] at hj; cases hj
  ·simp [hj]
theorem zNz {c : zAu} (h : okc c) {k : Int} {j : Nat} (ha : atC c k = some j) {x : zAT} (hx : x = zAF ∨ (zBi isL x = true ∧ x.1 = k)) :
    let c' : zAu := (c.1.set (zAE c k) ((zAm c k).set j x), c.2)
    okc c' ∧ zAC c' k = x ∧ (∀ l, 0 ≤ l → l ≠ k → zAC c' l = zAC c l) ∧ (∀ l, zB2 c l ≠ none → zB2 c' l ≠ none) ∧ (x = zAF → ∀ l, zAE c l = zAE c k → zB2 c' l ≠ none) ∧ c'.1.length = c.1.length := by
 intro c';obtain ⟨h0, hu, he, hfu⟩ := zFv h ha;have hlt := (List.getElem?_eq_some_iff.1 hu).1;obtain ⟨h1, h2, m, hm, h3⟩ := h;have hokc : okc c := ⟨h1, h2, m, hm, h3⟩;obtain ⟨a1, a2, a3, a4⟩ := zE4 (ln := isL) (tok := zAJ) (line := k) h1 h2 h3;have hc2 : c.2.set (zAE c k) (zBs c k) = c.2 := by
  apply List.ext_getElem?
  intro i;rw [List.getElem?_set];by_cases hi : zAE c k = i
  ·subst hi;rw [if_pos rfl];have hl2 : zAE c k < c.2.length := by rw [h2]; exact zFk h1
   rw [if_pos hl2];unfold zBs;rw [List.getD_eq_getElem?_getD, List.getElem?_eq_getElem hl2]; rfl
  ·rw [if_neg hi]
 have hrok := zNx hokc k;have hkm : k % (c.1.length : Int) = (zAE c k : Nat) := (zDa h1).symm;have hok : okc c' := by
  have := ok_set (ln := isL) (tok := zAJ) (line := k) (i := j) (x := x) h1 h2 hm h3 a3 (zMF hrok (by
   rcases hx with rfl | ⟨hx, hx1⟩
   ·exact .inl zDM
   ·exact .inr ⟨hx, by rw [hx1]; exact hkm⟩) (fun i u hu' hx0 hux => by
   rcases hx with rfl | ⟨hx, hx1⟩
   ·simp [zAF] at hx0
   ·exact hrok.2 i j u _ hu' hu (by omega) (by rw [hux, hx1, he])))
  rw [hc2] at this;exact this
 have hrow : ∀ l, zAm c' l = if zAE c l = zAE c k then (zAm c k).set j x else zAm c l := fun l => zE5 h1
 have hsn : ∀ l, zAE c' l = zAE c l := fun l => by simp [zAE, c']
 have hget : (zAm c' k)[j]? = some x := by rw [hrow, if_pos rfl, List.getElem?_set, if_pos rfl, if_pos hlt]
 refine ⟨hok, ?_, fun l hl hne => ?_, fun l hp => ?_, fun hxe l hs => ?_, by simp [c']⟩
 ·rcases hx with rfl | ⟨hx, hx1⟩
  ·apply zGr
   cases hat : atC c' k with
   | none => rfl
   | some i =>
    obtain ⟨_, y, hy, hye⟩ := zD1 hat;rw [hrow, if_pos rfl, List.getElem?_set] at hy;by_cases hij : j = i
    ·rw [if_pos hij, if_pos (by omega)] at hy;injection hy with hy; subst hy
     simp [zAF] at hye; omega
    ·rw [if_neg hij] at hy;exact absurd (hrok.2 i j y _ hy hu (by omega) (by rw [hye, he])).symm hij
  ·have hat := zKZ (zNx hok k).2 h0 hget hx1;rw [zLn hat, zG4 hget]
 ·rw [← zEC hok, ← zEC hokc];refine (zIW (ln := isL) (tok := zAJ) hokc hok fun y hy => ?_).symm;rw [hrow];by_cases hs : zAE c l = zAE c k
  ·rw [if_pos hs];have hrl : zAm c l = zAm c k := by unfold zAm; rw [hs]
   rw [hrl];constructor
   ·rintro ⟨i, hi⟩;refine ⟨i, ?_⟩;rw [List.getElem?_set];by_cases hij : j = i
    ·subst hij; rw [hu] at hi; injection hi with hi; subst hi; exact absurd (he.symm.trans hy) (fun e => hne e.symm)
    ·rw [if_neg hij]; exact hi
   ·rintro ⟨i, hi⟩;rw [List.getElem?_set] at hi;by_cases hij : j = i
    ·rw [if_pos hij, if_pos (by omega)] at hi;injection hi with hi; subst hi
     rcases hx with rfl | ⟨_, hx1⟩
     ·simp [zAF] at hy; omega
     ·exact absurd (hx1.symm.trans hy) (fun e => hne e.symm)
    ·rw [if_neg hij] at hi; exact ⟨i, hi⟩
  ·rw [if_neg hs]
 ·-- room stays
  by_cases hs : zAE c l = zAE c k
  ·have hrl : zAm c l = zAm c k := by unfold zAm; rw [hs]
   have hrc : zAm c' l = (zAm c k).set j x := by rw [hrow, if_pos hs]
   by_cases hxe : x = zAF
   ·refine zGP (.inr (zKY (i := j) (u := x) ?_ (by rw [hxe]; exact zDM)));rw [hrc, List.getElem?_set, if_pos rfl, if_pos hlt]
   ·have hxf : zBi isL x = true ∧ x.1 = k := hx.resolve_left hxe;cases hat : atC c l with
    | some i =>
     obtain ⟨hl0, y, hy, hye⟩ := zD1 hat;rw [hrl] at hy;refine zGP (.inl ?_);by_cases hij : j = i
     ·subst hij; rw [hu] at hy; injection hy with hy; subst hy
      exact at_of hl0 (i := j) (u := x) (by rw [hrc, List.getElem?_set, if_pos rfl, if_pos hlt]) (by rw [hxf.2, ← he, hye])
     ·exact at_of hl0 (i := i) (u := y) (by rw [hrc, List.getElem?_set, if_neg hij]; exact hy) hye
    | none =>
     cases hro : zJQ c l with
     | none => exfalso; apply hp; unfold zB2; rw [hat]; exact hro
     | some i =>
      obtain ⟨y, hy, hyc⟩ := zGk hro;rw [hrl] at hy;by_cases hij : j = i
      ·subst hij; rw [hu] at hy; injection hy with hy; subst hy
       rw [zEJ hfu] at hyc; cases hyc
      ·exact zGP (.inr (zKY (i := i) (u := y) (by rw [hrc, List.getElem?_set, if_neg hij]; exact hy) hyc))
  ·have hrc : zAm c' l = zAm c l := by rw [hrow, if_neg hs]
   have : zB2 c' l = zB2 c l := by unfold zB2 atC zJQ; rw [hrc]
   rw [this]; exact hp
 ·refine zGP (.inr (zKY (i := j) (u := x) ?_ (by rw [hxe]; exact zDM)));rw [hrow, if_pos hs, List.getElem?_set, if_pos rfl, if_pos hlt]
theorem zI6 {c : zAu} (h : okc c) {k : Int} {j : Nat} (ha : atC c k = some j) :
    okc (zCY c k) ∧ zAC (zCY c k) k = zAF ∧ (∀ l, 0 ≤ l → l ≠ k → zAC (zCY c k) l = zAC c l) ∧ (∀ l, zB2 c l ≠ none → zB2 (zCY c k) l ≠ none) ∧ (∀ l, zAE c l = zAE c k → zB2 (zCY c k) l ≠ none) ∧ (zCY c k).1.length = c.1.length := by
 have := zNz h ha (x := zAF) (.inl rfl);have e : zCY c k = (c.1.set (zAE c k) ((zAm c k).set j zAF), c.2) := by unfold zCY; rw [ha]; rfl
 rw [e];exact ⟨this.1, this.2.1, this.2.2.1, this.2.2.2.1, this.2.2.2.2.1 rfl, this.2.2.2.2.2⟩
theorem set_way {c : zAu} (h : okc c) {k : Int} {j : Nat} (ha : atC c k = some j) {x : zAT} (hx : zBi isL x = true ∧ x.1 = k) :
    okc (zDZ c k x) ∧ zAC (zDZ c k x) k = x ∧ (∀ l, 0 ≤ l → l ≠ k → zAC (zDZ c k x) l = zAC c l) ∧ (∀ l, zB2 c l ≠ none → zB2 (zDZ c k x) l ≠ none) ∧ (zDZ c k x).1.length = c.1.length := by
 have := zNz h ha (x := x) (.inr hx);have e : zDZ c k x = (c.1.set (zAE c k) ((zAm c k).set j x), c.2) := by unfold zDZ; rw [ha]
 rw [e];exact ⟨this.1, this.2.1, this.2.2.1, this.2.2.2.1, this.2.2.2.2.2⟩
theorem zLX {c : zAu} (h : okc c) {k : Int} (h0 : 0 ≤ k) : (zCc c k < 0 ∧ zB2 c k ≠ none) ∨ (0 ≤ zCc c k ∧ zB2 c k = none ∧ zCc c k ≠ k ∧ (∃ j, atC c (zCc c k) = some j) ∧ zB2 (zCY c (zCc c k)) k ≠ none) := by
 cases hp : zB2 c k with
 | some j => exact .inl ⟨by unfold zCc; rw [hp]; show (-1 : Int) < 0; decide, by simp⟩
 | none =>
  obtain ⟨j, u, hu, e, hf, hs, hne, ha⟩ := zJS (ln := isL) (tok := zAJ) (vic := goI) env_vic h hp h0;have el : zCc c k = u.1 := by unfold zCc; rw [hp]; show ((zAm c k).getD _ zAF).1 = _; rw [e]
  rw [el];exact .inr ⟨(zBY hf).1, rfl, hne, ⟨j, ha⟩, (zI6 h ha).2.2.2.2.1 k hs.symm⟩
theorem zEa {c : CoreS} (h0 : 0 ≤ c.at_) (h1 : c.at_ < c.prog.length) : zBv c ∈ c.prog := by
 unfold zBv;have : c.at_.toNat < c.prog.length := by omega
 rw [List.getD_eq_getElem?_getD, List.getElem?_eq_getElem this];exact List.getElem_mem this
theorem zED {o : OpD} (h : zNw o = true) : (1 ≤ o.1 ∧ o.1 ≤ 5) ∧ (0 ≤ o.2.1 ∧ o.2.1 ≤ 31) ∧ (0 ≤ o.2.2.1 ∧ o.2.2.1 ≤ 9999) ∧ (0 ≤ o.2.2.2 ∧ o.2.2.2 ≤ 9999) := by
 simp only [zNw, zBN, opB, zAP, Bool.and_eq_true, decide_eq_true_eq] at h;obtain ⟨h1, h2, h3, h4⟩ := h;refine ⟨h1, h2, ?_, ?_⟩
 ·unfold zDV at h3; split at h3 <;> omega
 ·unfold zEu at h4; split at h4 <;> omega
theorem zGQ {o : OpD} (h : zNw o = true) : 0 ≤ zBe o ∧ zBe o ≤ 15 := by
 have := zED h; unfold zBe; omega
theorem zI7 {d : List Int} (h : isL d = true) : ∃ a b, d = [a, b] ∧ (0 ≤ a ∧ a ≤ 9999) ∧ (0 ≤ b ∧ b ≤ 9999) := by
 match d, h with
 | [a, b], h => simp only [isL, okW, zAP, Bool.and_eq_true, decide_eq_true_eq] at h; exact ⟨a, b, rfl, h.1, h.2⟩
theorem zI8 {o : OpD} (h : zNw o = true) {z : Int} (hz : 0 ≤ z ∧ z ≤ 9999) : 0 ≤ (zII o z).1 ∧ (zII o z).1 ≤ 9999 := by
 have := zED h;unfold zII zC0;dsimp only
 repeat' split
 all_goals omega
def zHH (o : OpD) (d : List Int) : List Int := d.set (o.2.1 % 2).toNat (zII o (d.getD (o.2.1 % 2).toNat 0)).1
theorem zGR {o : OpD} (h : zNw o = true) {d : List Int} (hd : isL d = true) : isL (zHH o d) = true := by
 obtain ⟨a, b, rfl, ha, hb⟩ := zI7 hd;have hp := zED h;have : o.2.1 % 2 = 0 ∨ o.2.1 % 2 = 1 := by omega
 rcases this with e | e
 ·have := zI8 h ha;simp [zHH, e, isL, okW, zAP]; exact ⟨this, hb⟩
 ·have := zI8 h hb;simp [zHH, e, isL, okW, zAP]; exact ⟨ha, this⟩
def zJu (c : CoreS) : Bool := if c.phase = 1 then (zEf c.held || zBi isL c.held) && decide (atC c.cache c.held.1 = none) else zB7 c.held
noncomputable def coreBS (c : CoreS) : Bool := okB isL zAJ c.cache && (decide (c.prog.length ≤ 30) && (zAP c.at_ 0 c.prog.length && (decide ((c.told.length : Int) = c.at_) && (zAP c.phase 0 2 && (!(decide (c.phase = 2) && decide (c.at_ = c.prog.length)) && (c.prog.all zNw && zJu c))))))
structure CoreP (c : CoreS) : Prop where
 ok : okc c.cache
 len : c.prog.length ≤ 30
 at0 : 0 ≤ c.at_
 at1 : c.at_ ≤ c.prog.length
 told : (c.told.length : Int) = c.at_
 ph : c.phase = 0 ∨ c.phase = 1 ∨ c.phase = 2
 wait : c.phase = 2 → c.at_ < c.prog.length
 ops : ∀ o ∈ c.prog, zNw o = true
 held : zJu c = true
theorem zI9 {c : CoreS} : coreBS c = true ↔ CoreP c := by
 unfold coreBS;simp only [Bool.and_eq_true, zCK, decide_eq_true_eq, zAP, Bool.not_eq_true', Bool.and_eq_false_iff, decide_eq_false_iff_not, List.all_eq_true];constructor
 ·rintro ⟨h1, h2, h3, h4, h5, h6, h7, h8⟩;exact ⟨h1, h2, h3.1, h3.2, h4, by omega, fun e => by rcases h6 with h6 | h6 <;> omega, h7, h8⟩
 ·rintro ⟨h1, h2, h3, h4, h5, h6, h7, h8, h9⟩;refine ⟨h1, h2, ⟨h3, h4⟩, h5, by omega, ?_, h8, h9⟩;by_cases e : c.phase = 2
  ·exact .inr (by have := h7 e; omega)
  ·exact .inl e
theorem zDo {c : CoreS} (h : CoreP c) (hp : c.phase ≠ 1) : c.held = zAF := by
 have := h.held;unfold zJu at this;rw [if_neg hp] at this;exact zCQ this
theorem zCE {c : CoreS} (h : CoreP c) (hp : c.phase = 1) : (0 ≤ c.held.1 ∧ c.held.1 ≤ 15) ∧ ((c.held.2.1 = 0 ∧ c.held.2.2 = []) ∨ zBi isL c.held = true) ∧ atC c.cache c.held.1 = none := by
 have := h.held;unfold zJu at this;rw [if_pos hp] at this;simp only [Bool.and_eq_true, Bool.or_eq_true, decide_eq_true_eq, zEf, zAP] at this;obtain ⟨h1 | h1, h2⟩ := this
 ·exact ⟨h1.1, .inl ⟨h1.2.1, List.eq_nil_of_length_eq_zero h1.2.2⟩, h2⟩
 ·exact ⟨(zBY h1), .inr h1, h2⟩
theorem zK1 {c : CoreS} (hp : c.phase = 1) (h0 : 0 ≤ c.held.1 ∧ c.held.1 ≤ 15) (h1 : (c.held.2.1 = 0 ∧ c.held.2.2 = []) ∨ zBi isL c.held = true) (h2 : atC c.cache c.held.1 = none) : zJu c = true := by
 unfold zJu;rw [if_pos hp];simp only [Bool.and_eq_true, Bool.or_eq_true, decide_eq_true_eq, zEf, zAP];refine ⟨?_, h2⟩;rcases h1 with h1 | h1
 ·exact .inl ⟨h0, h1.1, by rw [h1.2]; rfl⟩
 ·exact .inr h1
theorem zFw {c : CoreS} (hp : c.phase ≠ 1) (h : c.held = zAF) : zJu c = true := by
 unfold zJu;rw [if_neg hp, h];exact zDM
theorem ph_same {c : CoreS} (h : c.phase = 0) : ({ c with phase := 0 } : CoreS) = c := by
 obtain ⟨a, b, d, p, f, g⟩ := c;have : p = 0 := h;subst this;rfl
theorem zN0 {c c' : CoreS} {u : zAT} (h : CoreP c) (hp : c.phase ≠ 1) (h1 : c.at_ < c.prog.length) (hu : zBi isL u = true) (hd : doS c u = some c') :
    CoreP { c' with phase := 0 } ∧ c'.phase = c.phase ∧ c'.held = c.held ∧ c'.prog = c.prog ∧ c'.at_ = c.at_ + 1 ∧ zCl u.2.1 (zCV (zBv c)) = 0 ∧ zAC c'.cache u.1 = (u.1, (if zCV (zBv c) then 3 else u.2.1), zHH (zBv c) u.2.2) := by
 have ho := h.ops _ (zEa h.at0 h1);unfold doS at hd;dsimp only at hd
 by_cases ha : zCl u.2.1 (zCV (zBv c)) = 0
 ·rw [if_pos ha] at hd;split at hd
  ·rename_i cc hf
   cases hd;obtain ⟨q1, q2, q3, q4, q5⟩ := fill_way h.ok hf;refine ⟨⟨q1, h.len, ?_, ?_, ?_, .inl rfl, fun e => ?_, h.ops, zFw (by simp) (zDo (c := c) h hp)⟩, rfl, rfl, rfl, rfl, ha, q3⟩
   ·show 0 ≤ c.at_ + 1; have := h.at0; omega
   ·show c.at_ + 1 ≤ (c.prog.length : Int); omega
   ·show ((c.told ++ [_]).length : Int) = c.at_ + 1
    rw [List.length_append, List.length_singleton];have := h.told;omega
   ·cases e
  ·cases hd
 ·rw [if_neg ha] at hd; cases hd
theorem zIA {c : zAu} (h : okc c) {k : Int} {j : Nat} (ha : atC c k = some j) : 0 ≤ k ∧ k ≤ 15 ∧ (zAC c k).1 = k ∧ zBi isL (zAC c k) = true ∧ 1 ≤ (zAC c k).2.1 ∧ (zAC c k).2.1 ≤ 3 ∧ isL (zAC c k).2.2 = true := by
 obtain ⟨h0, _, h1, h2⟩ := zFv h ha;have hp := zB0 h2;exact ⟨h0, by have := hp.1.2; omega, h1, h2, hp.2.1.1, hp.2.1.2, hp.2.2⟩
theorem zLo {d : List Int} (h : isL d = true) : d ≠ [] := by
 intro e;subst e;simp [isL] at h
def zJv (l : List zB5) : Prop := l.length ≤ 1 ∧ ∀ m ∈ l, msgB m = true
theorem zFx : zJv [] := ⟨by simp, by simp⟩
theorem zFy {m : zB5} (h : msgB m = true) : zJv [m] := ⟨by simp, by simpa using h⟩
theorem zJw {road frm tgt kind line flag : Int} {d : List Int} (h1 : 0 ≤ road ∧ road ≤ 2) (h2 : 0 ≤ frm ∧ frm ≤ 5) (h3 : 0 ≤ tgt ∧ tgt ≤ 5) (h4 : 1 ≤ kind ∧ kind ≤ 15) (h5 : 0 ≤ line ∧ line ≤ 15) (h6 : d = [] ∨ isL d = true) (h7 : 0 ≤ flag ∧ flag ≤ 15) : msgB (msg road frm tgt kind line d flag) = true := by
 have hd : zLW d = true := by
  unfold zLW;rcases h6 with rfl | h6
  ·rfl
  ·rw [h6, Bool.or_true]
 unfold msgB msg endsB;dsimp only
 rw [hd];simp [zAP]
 omega
theorem asks_two {s : Int} {w : Bool} (hs : 0 ≤ s ∧ s ≤ 3) (h : zCl s w ≠ 0) : (zCl s w = 2 ↔ w = true) := by
 obtain ⟨h0, h1⟩ := hs;have hb : zAP s 0 3 = true := by simp [zAP]; omega
 unfold zCl at h ⊢;rw [if_pos hb] at h ⊢;cases w
 ·simp only [Bool.false_eq_true, if_false, iff_false];unfold readI;split <;> decide
 ·simp only [if_true, iff_true] at h ⊢;unfold zMC at h ⊢;split at h
  ·rename_i e; rw [if_pos e]
  ·exact absurd rfl h
theorem zLY {c : CoreS} (h : CoreP c) {id : Int} (hid : 0 ≤ id ∧ id ≤ 3) :
    CoreP (zBT c id).1 ∧ zJv (zBT c id).2.1 ∧
    (((zBT c id).2.2 = 0 ∧ (zBT c id).1 = c ∧ (zBT c id).2.1 = [] ∧ (c.phase ≠ 0 ∨ c.at_ = c.prog.length)) ∨
     ((zBT c id).2.2 = 1 ∧ (zBT c id).1.at_ = c.at_ + 1 ∧ (zBT c id).2.1 = [] ∧ (zBT c id).1.phase = 0) ∨
     ((zBT c id).2.2 = 2 ∧ (zBT c id).1.phase = 1 ∧ atC (zBT c id).1.cache (zBT c id).1.held.1 = none ∧ zAC c.cache (zBT c id).1.held.1 = (zBT c id).1.held ∧ ∃ m, (zBT c id).2.1 = [m] ∧ zBm m = 3 ∧ (zBJ m ≠ [] ↔ 2 ≤ (zBT c id).1.held.2.1)) ∨
     ((zBT c id).2.2 = 3 ∧ (zBT c id).1.phase = 2 ∧ (zBT c id).1.cache = c.cache ∧ ∃ m, (zBT c id).2.1 = [m] ∧ (zBm m = 2 ↔ zCV (zBv c) = true))) := by
 by_cases h0 : c.phase ≠ 0 ∨ c.at_ = c.prog.length
 ·have e : zBT c id = (c, [], 0) := by unfold zBT; rw [if_pos h0]
  rw [e];exact ⟨h, zFx, .inl ⟨rfl, rfl, rfl, h0⟩⟩
 ·have hp : c.phase = 0 := Classical.byContradiction fun e => h0 (.inl e);have hat : c.at_ < c.prog.length := by
   have := h.at1;have : c.at_ ≠ c.prog.length := fun e => h0 (.inr e);omega
  have ho := h.ops _ (zEa h.at0 hat);have hl := zGQ ho;have hne := zDo h (by omega);by_cases ha : zCl (zAC c.cache (zBe (zBv c))).2.1 (zCV (zBv c)) = 0
  ·obtain ⟨hst, hsz⟩ := zGO h.ok (zBe (zBv c));cases hat' : atC c.cache (zBe (zBv c)) with
   | none =>
    have := hsz.2 hat';rw [this] at ha;cases hw : zCV (zBv c) <;> rw [hw] at ha <;> exact absurd ha (by decide)
   | some j =>
    obtain ⟨f0, f1, f2, f3, f4, f5, f6⟩ := zIA h.ok hat';have hroom : zB2 c.cache (zBe (zBv c)) ≠ none := zGP (.inl ⟨j, hat'⟩);have hfull : zBi isL ((zAC c.cache (zBe (zBv c))).1, (if zCV (zBv c) then (3 : Int) else (zAC c.cache (zBe (zBv c))).2.1), zHH (zBv c) (zAC c.cache (zBe (zBv c))).2.2) = true := by
     simp only [zBi, decide_eq_true_eq];refine ⟨by omega, ?_, zGR ho f6⟩;split <;> omega
    obtain ⟨cc, hf⟩ := zNy hfull (by show zB2 c.cache (zAC c.cache (zBe (zBv c))).1 ≠ none; rw [f2]; exact hroom);have hd : doS c (zAC c.cache (zBe (zBv c))) = some { c with cache := cc, told := c.told ++ [(zII (zBv c) ((zAC c.cache (zBe (zBv c))).2.2.getD ((zBv c).2.1 % 2).toNat 0)).2], at_ := c.at_ + 1 } := by
     unfold doS;dsimp only
     rw [if_pos ha];unfold zHH at hf;rw [hf]
    obtain ⟨g1, g2, g3, g4, g5, g6, g7⟩ := zN0 h (by omega) hat f3 hd;have e : zBT c id = ({ c with cache := cc, told := c.told ++ [(zII (zBv c) ((zAC c.cache (zBe (zBv c))).2.2.getD ((zBv c).2.1 % 2).toNat 0)).2], at_ := c.at_ + 1 }, [], 1) := by
     unfold zBT;rw [if_neg h0];dsimp only
     rw [if_pos ha, hd];rfl
    rw [e];refine ⟨?_, zFx, .inr (.inl ⟨rfl, rfl, rfl, hp⟩)⟩;rw [ph_same (g2.trans hp)] at g1;exact g1
  ·by_cases hv : 0 ≤ zCc c.cache (zBe (zBv c))
   ·rcases zLX h.ok hl.1 with ⟨w1, _⟩ | ⟨w1, w2, w3, ⟨j, w4⟩, w5⟩
    ·omega
    ·obtain ⟨f0, f1, f2, f3, f4, f5, f6⟩ := zIA h.ok w4;obtain ⟨d1, d2, d3, _, _, d6⟩ := zI6 h.ok w4;have hnone : atC (zCY c.cache (zCc c.cache (zBe (zBv c)))) (zCc c.cache (zBe (zBv c))) = none := (zGO d1 _).2.1 (by rw [d2]; rfl);have e : zBT c id = ({ c with held := zAC c.cache (zCc c.cache (zBe (zBv c))), cache := zCY c.cache (zCc c.cache (zBe (zBv c))), phase := 1 }, [if 2 ≤ (zAC c.cache (zCc c.cache (zBe (zBv c)))).2.1 then msg 0 id 4 3 (zCc c.cache (zBe (zBv c))) (zAC c.cache (zCc c.cache (zBe (zBv c)))).2.2 1 else msg 0 id 4 3 (zCc c.cache (zBe (zBv c))) [] 0], 2) := by
      unfold zBT;rw [if_neg h0];dsimp only
      rw [if_neg ha, if_pos hv]
     rw [e];refine ⟨⟨d1, h.len, h.at0, h.at1, h.told, .inr (.inl rfl), (fun e => by cases e), h.ops, zK1 rfl ?_ (.inr f3) ?_⟩, zFy ?_, .inr (.inr (.inl ⟨rfl, rfl, ?_, ?_, _, rfl, ?_, ?_⟩))⟩
     ·show 0 ≤ (zAC c.cache _).1 ∧ (zAC c.cache _).1 ≤ 15; rw [f2]; exact ⟨f0, f1⟩
     ·show atC (zCY c.cache _) (zAC c.cache _).1 = none; rw [f2]; exact hnone
     ·split
      ·exact zJw (by omega) (by omega) (by omega) (by omega) (by omega) (.inr f6) (by omega)
      ·exact zJw (by omega) (by omega) (by omega) (by omega) (by omega) (.inl rfl) (by omega)
     ·show atC (zCY c.cache _) (zAC c.cache _).1 = none; rw [f2]; exact hnone
     ·show zAC c.cache (zAC c.cache _).1 = zAC c.cache _; rw [f2]
     ·split <;> rfl
     ·show zBJ _ ≠ [] ↔ 2 ≤ (zAC c.cache _).2.1
      split
      ·rename_i e2; exact ⟨fun _ => e2, fun _ => zLo f6⟩
      ·rename_i e2; exact ⟨fun q => absurd rfl q, fun q => absurd q e2⟩
   ·have e : zBT c id = ({ c with phase := 2 }, [msg 0 id 4 (if zCl (zAC c.cache (zBe (zBv c))).2.1 (zCV (zBv c)) = 2 then 2 else 1) (zBe (zBv c)) [] 0], 3) := by
      unfold zBT;rw [if_neg h0];dsimp only
      rw [if_neg ha, if_neg hv]
    rw [e];refine ⟨⟨h.ok, h.len, h.at0, h.at1, h.told, .inr (.inr rfl), fun _ => hat, h.ops, zFw (by simp) hne⟩, zFy ?_, .inr (.inr (.inr ⟨rfl, rfl, rfl, _, rfl, ?_⟩))⟩
    ·refine zJw (by omega) (by omega) (by omega) ?_ (by omega) (.inl rfl) (by omega);split <;> omega
    ·have hst := (zGO h.ok (zBe (zBv c))).1;show (if zCl _ _ = 2 then (2 : Int) else 1) = 2 ↔ _
     rw [← asks_two hst ha];split
     ·rename_i e2; simp [e2]
     ·rename_i e2; simp [e2]
theorem zN1 {c : zAu} (h : okc c) {k : Int} (e : (zAC c k).2.1 = 0) : atC c k = none := (zGO h k).2.1 e
def AskP (c : CoreS) (id : Int) (m : zB5) (r : CoreS × zB5) : Prop :=
 CoreP r.1 ∧ msgB r.2 = true ∧ zAt r.2 = zAt m ∧ (zBm r.2 = 8 ∨ zBm r.2 = 9) ∧ (zBm r.2 = 8 ↔ zBJ r.2 ≠ []) ∧ (zAC r.1.cache (zAt m)).2.1 < 2 ∧ (zBm m = 7 → (zAC r.1.cache (zAt m)).2.1 = 0) ∧
  (zB9 r.2 = 1 ↔ (zAC r.1.cache (zAt m)).2.1 = 0 ∧ (r.1.phase ≠ 1 ∨ r.1.held.1 ≠ zAt m ∨ r.1.held.2.1 = 0)) ∧ (zAI r.1 id m).1 = r.1 ∧ zBm (zAI r.1 id m).2 = 9
theorem zLZ {c : CoreS} (h : CoreP c) {id : Int} (hid : 0 ≤ id ∧ id ≤ 3) {m : zB5} (hk : zBm m = 6 ∨ zBm m = 7) (hl : 0 ≤ zAt m ∧ zAt m ≤ 15) : AskP c id m (zAI c id m) := by
 have hmk : ∀ kd fl : Int, ∀ d : List Int, (kd = 8 ∨ kd = 9) → (fl = 0 ∨ fl = 1) → (d = [] ∨ isL d = true) → msgB (msg 2 id 4 kd (zAt m) d fl) = true := fun kd fl d h1 h2 h3 => zJw (by omega) (by omega) (by omega) (by omega) (by omega) h3 (by omega);cases ha : atC c.cache (zAt m) with
 | some j =>
  obtain ⟨f0, f1, f2, f3, f4, f5, f6⟩ := zIA h.ok ha;have hh : c.phase = 1 → c.held.1 ≠ zAt m := fun hp e => by
   have := (zCE h hp).2.2;rw [e, ha] at this;cases this
  have keep : ∀ cc : zAu, okc cc → (∀ l, 0 ≤ l → l ≠ zAt m → zAC cc l = zAC c.cache l) → CoreP { c with cache := cc } := by
   intro cc ok hw;refine ⟨ok, h.len, h.at0, h.at1, h.told, h.ph, h.wait, h.ops, ?_⟩;by_cases hp : c.phase = 1
   ·obtain ⟨e1, e2, e3⟩ := zCE h hp;refine zK1 hp e1 e2 (zN1 ok ?_);show (zAC cc c.held.1).2.1 = 0
    rw [hw _ e1.1 (hh hp)];exact (zGO h.ok _).2.2 e3
   ·exact zFw hp (zDo (c := c) h hp)
  rcases hk with hk | hk
  ·-- it is read
   by_cases hs : 2 ≤ (zAC c.cache (zAt m)).2.1
   ·obtain ⟨g1, g2, g3, _, _⟩ := set_way h.ok ha (x := ((zAC c.cache (zAt m)).1, 1, (zAC c.cache (zAt m)).2.2)) ⟨by
      simp only [zBi, decide_eq_true_eq]
      exact ⟨by omega, by omega, f6⟩, f2⟩
    have e : zAI c id m = ({ c with cache := zDZ c.cache (zAt m) ((zAC c.cache (zAt m)).1, 1, (zAC c.cache (zAt m)).2.2) }, msg 2 id 4 8 (zAt m) (zAC c.cache (zAt m)).2.2 0) := by
     unfold zAI;dsimp only
     rw [ha];dsimp only
     rw [if_neg (by omega), if_pos hs, if_pos hs, if_pos hs]
    have a2 : ∃ i, atC (zDZ c.cache (zAt m) ((zAC c.cache (zAt m)).1, 1, (zAC c.cache (zAt m)).2.2)) (zAt m) = some i := by
     cases hq : atC (zDZ c.cache (zAt m) ((zAC c.cache (zAt m)).1, 1, (zAC c.cache (zAt m)).2.2)) (zAt m) with
     | some i => exact ⟨i, rfl⟩
     | none =>
      have := (zGO g1 _).2.2 hq;rw [g2] at this;cases this
    obtain ⟨i, a2⟩ := a2;rw [e];refine ⟨keep _ g1 g3, hmk 8 0 _ (.inl rfl) (.inl rfl) (.inr f6), rfl, .inl rfl, ⟨fun _ => zLo f6, fun _ => rfl⟩, ?_, fun q => by omega, ?_, ?_, ?_⟩
    ·show (zAC (zDZ c.cache _ _) _).2.1 < 2; rw [g2]; show (1 : Int) < 2; omega
    ·show (0 : Int) = 1 ↔ (zAC (zDZ c.cache _ _) _).2.1 = 0 ∧ _
     rw [g2];constructor
     ·intro q; omega
     ·rintro ⟨q, _⟩; exact absurd (show (1 : Int) = 0 from q) (by decide)
    ·unfold zAI;dsimp only
     rw [a2];dsimp only
     rw [if_neg (by omega), g2, if_neg (show ¬ (2 : Int) ≤ 1 by decide)]
    ·unfold zAI;dsimp only
     rw [a2];dsimp only
     rw [if_neg (by omega), g2, if_neg (show ¬ (2 : Int) ≤ 1 by decide)];rfl
   ·have e : zAI c id m = (c, msg 2 id 4 9 (zAt m) [] 0) := by
      unfold zAI;dsimp only
      rw [ha];dsimp only
      rw [if_neg (by omega), if_neg hs, if_neg hs, if_neg hs]
    have e1 : (zAI c id m).1 = c := by rw [e]
    have e2 : (zAI c id m).2 = msg 2 id 4 9 (zAt m) [] 0 := by rw [e]
    rw [e];refine ⟨h, hmk 9 0 _ (.inr rfl) (.inl rfl) (.inl rfl), rfl, .inr rfl, ⟨fun q => absurd (show (9 : Int) = 8 from q) (by decide), fun q => absurd rfl q⟩, by show (zAC c.cache _).2.1 < 2; omega, fun q => by omega, ?_, ?_, ?_⟩
    ·show (0 : Int) = 1 ↔ (zAC c.cache _).2.1 = 0 ∧ _
     constructor
     ·intro q; omega
     ·rintro ⟨q, _⟩; omega
    ·exact e1
    ·show zBm (zAI c id m).2 = 9; rw [e2]; rfl
  ·-- it is written
   obtain ⟨g1, g2, g3, _, _, _⟩ := zI6 h.ok ha;have e : zAI c id m = ({ c with cache := zCY c.cache (zAt m) }, msg 2 id 4 (if 2 ≤ (zAC c.cache (zAt m)).2.1 then 8 else 9) (zAt m) (if 2 ≤ (zAC c.cache (zAt m)).2.1 then (zAC c.cache (zAt m)).2.2 else []) 1) := by
    unfold zAI;dsimp only
    rw [ha];dsimp only
    rw [if_pos hk]
   have a2 : atC (zCY c.cache (zAt m)) (zAt m) = none := zN1 g1 (by rw [g2]; rfl);have e3 : zAI { c with cache := zCY c.cache (zAt m) } id m = ({ c with cache := zCY c.cache (zAt m) }, msg 2 id 4 9 (zAt m) [] 1) := by
    unfold zAI;dsimp only
    rw [a2];dsimp only
    rw [if_neg (fun q => hh q.1 q.2.1)]
   rw [e];refine ⟨keep _ g1 g3, ?_, rfl, ?_, ?_, ?_, fun _ => ?_, ?_, ?_, ?_⟩
   ·refine hmk _ 1 _ ?_ (.inr rfl) ?_
    ·split
     ·exact .inl rfl
     ·exact .inr rfl
    ·split
     ·exact .inr f6
     ·exact .inl rfl
   ·show (if _ then (8 : Int) else 9) = 8 ∨ (if _ then (8 : Int) else 9) = 9
    split
    ·exact .inl rfl
    ·exact .inr rfl
   ·show (if _ then (8 : Int) else 9) = 8 ↔ (if _ then (zAC c.cache (zAt m)).2.2 else []) ≠ []
    split
    ·exact ⟨fun _ => zLo f6, fun _ => rfl⟩
    ·exact ⟨fun q => absurd (show (9 : Int) = 8 from q) (by decide), fun q => absurd rfl q⟩
   ·show (zAC (zCY c.cache _) _).2.1 < 2; rw [g2]; decide
   ·show (zAC (zCY c.cache _) _).2.1 = 0; rw [g2]; rfl
   ·show (1 : Int) = 1 ↔ (zAC (zCY c.cache _) _).2.1 = 0 ∧ _
    rw [g2];refine ⟨fun _ => ⟨rfl, ?_⟩, fun _ => rfl⟩;by_cases hp : c.phase = 1
    ·exact .inr (.inl (hh hp))
    ·exact .inl hp
   ·rw [e3]
   ·rw [e3]; rfl
 | none =>
  have hw0 := (zGO h.ok (zAt m)).2.2 ha;have ew : zAC c.cache (zAt m) = zAF := zGr ha;by_cases hp : c.phase = 1 ∧ c.held.1 = zAt m ∧ c.held.2.1 ≠ 0
  ·obtain ⟨p1, p2, p3⟩ := hp;obtain ⟨e1, e2, e3⟩ := zCE h p1;have hf : zBi isL c.held = true := e2.resolve_left (fun q => p3 q.1);have hfp := zB0 hf;have gone : CoreP { c with held := (zAt m, 0, []) } := ⟨h.ok, h.len, h.at0, h.at1, h.told, h.ph, h.wait, h.ops, zK1 p1 hl (.inl ⟨rfl, rfl⟩) ha⟩;have e4 : zAI { c with held := (zAt m, 0, []) } id m = ({ c with held := (zAt m, 0, []) }, msg 2 id 4 9 (zAt m) [] 1) := by
    unfold zAI;dsimp only
    rw [ha];dsimp only
    rw [if_neg (fun q => q.2.2 rfl)]
   have fin : ∀ kd : Int, ∀ d : List Int, (kd = 8 ∨ kd = 9) → (d = [] ∨ isL d = true) → (kd = 8 ↔ d ≠ []) → AskP c id m ({ c with held := (zAt m, 0, []) }, msg 2 id 4 kd (zAt m) d 1) := by
    intro kd d h1 h2 h3;refine ⟨gone, hmk kd 1 d h1 (.inr rfl) h2, rfl, h1, h3, ?_, fun _ => hw0, ⟨fun _ => ⟨hw0, .inr (.inr rfl)⟩, fun _ => rfl⟩, ?_, ?_⟩
    ·show (zAC c.cache _).2.1 < 2; omega
    ·show (zAI { c with held := (zAt m, 0, []) } id m).1 = _; rw [e4]
    ·show zBm (zAI { c with held := (zAt m, 0, []) } id m).2 = 9; rw [e4]; rfl
   by_cases hs : 2 ≤ c.held.2.1
   ·have e : zAI c id m = ({ c with held := (zAt m, 0, []) }, msg 2 id 4 8 (zAt m) c.held.2.2 1) := by
      unfold zAI;dsimp only
      rw [ha];dsimp only
      rw [if_pos ⟨p1, p2, p3⟩, if_pos hs]
    rw [e];exact fin 8 _ (.inl rfl) (.inr hfp.2.2) ⟨fun _ => zLo hfp.2.2, fun _ => rfl⟩
   ·rcases hk with hk | hk
    ·have e : zAI c id m = (c, msg 2 id 4 9 (zAt m) [] 0) := by
       unfold zAI;dsimp only
       rw [ha];dsimp only
       rw [if_pos ⟨p1, p2, p3⟩, if_neg hs, if_pos hk]
     have q1 : (zAI c id m).1 = c := by rw [e]
     have q2 : (zAI c id m).2 = msg 2 id 4 9 (zAt m) [] 0 := by rw [e]
     rw [e];refine ⟨h, hmk 9 0 _ (.inr rfl) (.inl rfl) (.inl rfl), rfl, .inr rfl, ⟨fun q => absurd (show (9 : Int) = 8 from q) (by decide), fun q => absurd rfl q⟩, by show (zAC c.cache _).2.1 < 2; omega, fun q => by omega, ?_, q1, ?_⟩
     ·constructor
      ·intro q; exact absurd (show (0 : Int) = 1 from q) (by decide)
      ·rintro ⟨_, q | q | q⟩
       ·exact absurd p1 q
       ·exact absurd p2 q
       ·exact absurd q p3
     ·show zBm (zAI c id m).2 = 9; rw [q2]; rfl
    ·have e : zAI c id m = ({ c with held := (zAt m, 0, []) }, msg 2 id 4 9 (zAt m) [] 1) := by
       unfold zAI;dsimp only
       rw [ha];dsimp only
       rw [if_pos ⟨p1, p2, p3⟩, if_neg hs, if_neg (by omega)]
     rw [e];exact fin 9 _ (.inr rfl) (.inl rfl) ⟨fun q => absurd (show (9 : Int) = 8 from q) (by decide), fun q => absurd rfl q⟩
  ·have e : zAI c id m = (c, msg 2 id 4 9 (zAt m) [] 1) := by
     unfold zAI;dsimp only
     rw [ha];dsimp only
     rw [if_neg hp]
   have q1 : (zAI c id m).1 = c := by rw [e]
   have q2 : (zAI c id m).2 = msg 2 id 4 9 (zAt m) [] 1 := by rw [e]
   rw [e];refine ⟨h, hmk 9 1 _ (.inr rfl) (.inr rfl) (.inl rfl), rfl, .inr rfl, ⟨fun q => absurd (show (9 : Int) = 8 from q) (by decide), fun q => absurd rfl q⟩, by show (zAC c.cache _).2.1 < 2; omega, fun _ => hw0, ?_, q1, ?_⟩
   ·refine ⟨fun _ => ⟨hw0, ?_⟩, fun _ => rfl⟩;show c.phase ≠ 1 ∨ c.held.1 ≠ zAt m ∨ c.held.2.1 = 0
    by_cases a1 : c.phase = 1
    ·by_cases a2 : c.held.1 = zAt m
     ·exact .inr (.inr (Classical.byContradiction fun a3 => hp ⟨a1, a2, a3⟩))
     ·exact .inr (.inl a2)
    ·exact .inl a1
   ·show zBm (zAI c id m).2 = 9; rw [q2]; rfl
def GetP (c : CoreS) (id : Int) (m : zB5) (r : CoreS × List zB5 × Int) : Prop := CoreP r.1 ∧ zJv r.2.1 ∧
    ((r.2.2 = 0 ∧ r.1 = c ∧ r.2.1 = []) ∨
     (r.2.2 = 2 ∧ c.at_ < c.prog.length ∧ r.1.at_ = c.at_ + 1 ∧ r.1.phase = 0 ∧ (∃ a, r.2.1 = [a] ∧ zBm a = 10) ∧ zCl (zAC r.1.cache (zAt m)).2.1 (zCV (zBv c)) = 0) ∨
     (r.2.2 = 1 ∧ zBm m = 12) ∨
     (r.2.2 = 1 ∧ (zBm m = 6 ∨ zBm m = 7) ∧ (0 ≤ zAt m ∧ zAt m ≤ 15) ∧ r.1 = (zAI c id m).1 ∧ r.2.1 = [(zAI c id m).2] ∧ AskP c id m (zAI c id m) ∧ zBO (zAI c id m).1 id m = ((zAI c id m).1, [(zAI (zAI c id m).1 id m).2], 1)))
theorem zLp {c : CoreS} (h : CoreP c) {id : Int} (hid : 0 ≤ id ∧ id ≤ 3) (m : zB5) : GetP c id m (zBO c id m) := by
 have none : zBO c id m = (c, [], 0) → GetP c id m (zBO c id m) := fun e => by rw [e]; exact ⟨h, zFx, .inl ⟨rfl, rfl, rfl⟩⟩
 by_cases hk : zBm m = 6 ∨ zBm m = 7
 ·by_cases hl : zAP (zAt m) 0 15 = true
  ·have hl' : 0 ≤ zAt m ∧ zAt m ≤ 15 := by simpa [zAP] using hl
   have A := zLZ h hid hk hl';have e : zBO c id m = ((zAI c id m).1, [(zAI c id m).2], 1) := by unfold zBO; rw [if_pos hk, if_pos hl]
   have e2 : zBO (zAI c id m).1 id m = ((zAI c id m).1, [(zAI (zAI c id m).1 id m).2], 1) := by
    unfold zBO;rw [if_pos hk, if_pos hl, A.2.2.2.2.2.2.2.2.1]
   rw [e];exact ⟨A.1, zFy A.2.1, .inr (.inr (.inr ⟨rfl, hk, hl', rfl, rfl, A, e2⟩))⟩
  ·exact none (by unfold zBO; rw [if_pos hk, if_neg hl])
 ·by_cases hk2 : zBm m = 12
  ·by_cases hp : c.phase ≠ 1 ∨ c.held.1 ≠ zAt m
   ·exact none (by unfold zBO; rw [if_neg hk, if_pos hk2, if_pos hp])
   ·have e : zBO c id m = ({ c with phase := 0, held := zAF }, [], 1) := by unfold zBO; rw [if_neg hk, if_pos hk2, if_neg hp]
    rw [e];exact ⟨⟨h.ok, h.len, h.at0, h.at1, h.told, .inl rfl, (fun q => by cases q), h.ops, zFw (by simp) rfl⟩, zFx, .inr (.inr (.inl ⟨rfl, hk2⟩))⟩
  ·by_cases hk3 : zBm m = 11
   ·by_cases hp : c.phase ≠ 2 ∨ zBe (zBv c) ≠ zAt m ∨ isL (zBJ m) = false ∨ zAP (zB9 m) 1 3 = false
    ·exact none (by unfold zBO; rw [if_neg hk, if_neg hk2, if_pos hk3, if_pos hp])
    ·simp only [not_or, ne_eq, Classical.not_not, Bool.not_eq_false] at hp;obtain ⟨p1, p2, p3, p4⟩ := hp;have hat := h.wait p1;have ho := h.ops _ (zEa h.at0 hat);have hl := zGQ ho;have hf : zAP (zB9 m) 1 3 = true := p4;have hfl : 1 ≤ zB9 m ∧ zB9 m ≤ 3 := by simpa [zAP] using hf
     have hfull : zBi isL (zAt m, zB9 m, zBJ m) = true := by
      simp only [zBi, decide_eq_true_eq];exact ⟨by omega, hfl, p3⟩
     cases hd : doS c (zAt m, zB9 m, zBJ m) with
     | none => exact none (by unfold zBO; rw [if_neg hk, if_neg hk2, if_pos hk3, if_neg (by simp [p1, p2, p3, p4]), hd])
     | some c' =>
      obtain ⟨g1, g2, g3, g4, g5, g6, g7⟩ := zN0 h (by omega) hat hfull hd;have e : zBO c id m = ({ c' with phase := 0 }, [msg 2 id 4 10 (zAt m) [] 0], 2) := by unfold zBO; rw [if_neg hk, if_neg hk2, if_pos hk3, if_neg (by simp [p1, p2, p3, p4]), hd]
      rw [e];refine ⟨g1, zFy (zJw (by omega) (by omega) (by omega) (by omega) (by omega) (.inl rfl) (by omega)), .inr (.inl ⟨rfl, hat, g5, rfl, ⟨_, rfl, rfl⟩, ?_⟩)⟩;show zCl (zAC c'.cache (zAt m)).2.1 (zCV (zBv c)) = 0
      rw [g7];show zCl (if zCV (zBv c) then 3 else zB9 m) (zCV (zBv c)) = 0
      cases hw : zCV (zBv c)
      ·rw [hw] at g6; exact g6
      ·rw [if_pos rfl]; decide
   ·exact none (by unfold zBO; rw [if_neg hk, if_neg hk2, if_neg hk3])
#print axioms zLY
#print axioms zLp
end Go.Proofs.YtmdhblhdfcocjaaGreatDoor
