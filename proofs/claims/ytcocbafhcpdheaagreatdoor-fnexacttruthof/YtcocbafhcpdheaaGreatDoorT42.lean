import Derived.Test.YtcocbafhcpdheaaGreatDoorT00Box
import Derived.Test.YtcocbafhcpdheaaGreatDoorT40
import Derived.Test.YtcocbafhcpdheaaGreatDoorT41
namespace Go.Proofs.YtcocbafhcpdheaaGreatDoor
set_option maxHeartbeats 4000000
set_option maxRecDepth 20000
open Go.ChangeShapes Go.WideShapes Go.ChangeAt Go.RowKit
set_option linter.unusedVariables false
def zDM (x : zA2) : Bool := decide (zBe x.1.1 x.1.2.1 x.1.2.2.1 x.1.2.2.2 = 0) && (zCe x.2.1 && (decide ((x.2.1.2.length : Int) = x.1.2.2.2) && (decide ((x.2.2.1.length : Int) = x.1.1) && (zF2 x.2.2.2.1 && (decide (zDd x.1.1 x.1.2.1 x.1.2.2.1 x.1.2.2.2 x.2.2.2.1.1 = 0) && (zIF x.2.2.2.2.1 && decide (x.2.2.2.2.2.length ≤ 200)))))))
noncomputable def zEF (c s y l : Int) (u : zBi) : Bool := zCd u && (decide ((u.1.1.length : Int) = s) && (decide ((zB8 u.1 : Int) = y) && decide (zDk c s y l u.2.1 = 0)))
def zI3 (c : Int) (e : zAW) : Bool := decide (e.1 < c) && (decide (e.2.1 < 2 ^ c.toNat) && !(decide (e.2.2.2.2.1 < 4) && decide (c ≤ e.2.2.2.2.1)))
def zGf (c l : Int) (m : zDy) : Bool := decide (m.2.2.2.2.1 < l) && (!(decide (m.2.1 < 4) && decide (c ≤ m.2.1)) && !(decide (m.2.2.1 < 4) && decide (c ≤ m.2.2.1)))
noncomputable def zEc (x : zA2) : Bool := zDM x && (x.2.2.1.all (zEF x.1.1 x.1.2.1 x.1.2.2.1 x.1.2.2.2) && (x.2.2.1.all (zBS x.1.2.2.2) && (x.2.1.2.all (zI3 x.1.1) && (x.2.2.2.2.1.all (zGf x.1.1 x.1.2.2.2) && x.2.2.2.2.2.all evB))))
theorem zE2 {α : Type} {p q : α → Bool} {xs : List α} (h : ∀ a ∈ xs, p a = q a) : xs.all p = xs.all q := by
 induction xs with
 | nil => rfl
 | cons a xs ih => rw [List.all_cons, List.all_cons, h a (List.mem_cons_self ..), ih fun b hb => h b (List.mem_cons_of_mem _ hb)]
theorem all_both {α : Type} {p q : α → Bool} {xs : List α} : (xs.all p && xs.all q) = xs.all fun a => p a && q a := by
 induction xs with
 | nil => rfl
 | cons a xs ih =>
  rw [List.all_cons, List.all_cons, List.all_cons, ← ih];cases p a <;> cases q a <;> cases xs.all p <;> cases xs.all q <;> rfl
set_option linter.unusedSimpArgs false
theorem shar_fin : ∀ c : Fin 5, ∀ s : Fin 16, (zO7 (s.val : Int) 8).all (fun k => zA8 k 0 ((c.val : Int) - 1)) = decide ((s.val : Int) < 2 ^ c.val) := by decide +kernel
theorem zGr {a b : Bool} (h : a = true ↔ b = true) : a = b := by
 cases a <;> cases b <;> simp_all
theorem ent_eq {c : Int} {e : zAW} (h1 : 1 ≤ c) (h4 : c ≤ 4) (h : zDD e = true) : zI3 c e = zJC c e := by
 have m : zBw e.1 e.2.1 = true := by unfold zDD at h; rw [Bool.and_eq_true] at h; exact h.1
 have g : (0 ≤ e.2.2.2.2.1 ∧ e.2.2.2.2.1 ≤ 3) ∨ e.2.2.2.2.1 = 5 := by
  unfold zDD at h;rw [Bool.and_eq_true] at h;have q := h.2;cases l : e.2.2.1
  ·rw [l] at q;simp only [Bool.false_eq_true, if_false, zBc, Bool.and_eq_true, decide_eq_true_eq] at q;omega
  ·rw [l] at q;simp only [if_true, zAL, zCS, zA8, Bool.and_eq_true, decide_eq_true_eq] at q;have i := q.2.2.1;split at i
   ·simp only [decide_eq_true_eq] at i;omega
   ·simp only [Bool.and_eq_true, decide_eq_true_eq] at i;omega
 unfold zJC holdE;rw [if_pos h];have p : (hoI e.1 e.2.1).all (zCj c) = (decide (e.1 < c) && decide (e.2.1 < 2 ^ c.toNat)) := by
  simp only [zBw, zA8, Bool.and_eq_true, decide_eq_true_eq, Bool.not_eq_true', Bool.and_eq_false_iff, decide_eq_false_iff_not, Bool.not_eq_false'] at m;obtain ⟨w1, w2, f⟩ := m;unfold hoI;by_cases j : 0 ≤ e.1
  ·have k : e.2.1 = 0 := by
     rcases f with f | f
     ·exact absurd j f
     ·exact f
   rw [if_pos j, k];have r : (0 : Int) < 2 ^ c.toNat := Int.pow_pos (by decide);rw [decide_eq_true r, Bool.and_true];simp only [List.all_cons, List.all_nil, Bool.and_true, zCj, zA8];refine zGr ?_;simp only [decide_eq_true_eq];omega
  ·rw [if_neg j, decide_eq_true (show e.1 < c by omega), Bool.true_and];obtain ⟨s, k⟩ : ∃ s : Fin 16, (s.val : Int) = e.2.1 := ⟨⟨e.2.1.toNat, by omega⟩, by simp; omega⟩;obtain ⟨n, o⟩ : ∃ n : Fin 5, (n.val : Int) = c := ⟨⟨c.toNat, by omega⟩, by simp; omega⟩;have q := shar_fin n s;rw [k, o] at q;rw [show c.toNat = n.val from by omega];exact q
 rw [p];unfold zI3 zCJ zCj;refine zGr ?_;simp only [Bool.and_eq_true, Bool.or_eq_true, decide_eq_true_eq, Bool.not_eq_true', Bool.and_eq_false_iff, decide_eq_false_iff_not, zA8];constructor
 ·rintro ⟨a, b, d⟩;refine ⟨?_, a, b⟩;rcases g with g | g
  ·exact .inr (.inr (by omega))
  ·exact .inr (.inl g)
 ·rintro ⟨a, b, d⟩;exact ⟨b, d, by omega⟩
theorem msg_eq {c l : Int} {m : zDy} (h1 : 1 ≤ c) (h4 : c ≤ 4) (h : zD4 m = true) : zGf c l m = zIi c l m := by
 have hm : (0 ≤ m.2.1 ∧ m.2.1 ≤ 5) ∧ (0 ≤ m.2.2.1 ∧ m.2.2.1 ≤ 5) ∧ (0 ≤ m.2.2.2.2.1 ∧ m.2.2.2.2.1 ≤ 15) := by
  simp only [zD4, zDZ, zA8, Bool.and_eq_true, decide_eq_true_eq] at h;omega
 unfold zGf zIi zCJ zCj zD7;refine zGr ?_;simp only [Bool.and_eq_true, Bool.or_eq_true, decide_eq_true_eq, Bool.not_eq_true', Bool.and_eq_false_iff, decide_eq_false_iff_not, zA8];omega
theorem way_in {l : Int} {u : zC3} (h1 : 1 ≤ l) (h : zB3 u = true ∨ (0 ≤ u.1 ∧ u.1 ≤ 15)) : decide (u.1 < l) = zDY l u := by
 have hu : -1 ≤ u.1 := by
  rcases h with h | h
  ·simp only [zB3, decide_eq_true_eq] at h;omega
  ·omega
 unfold zDY zD7;refine zGr ?_;simp only [Bool.or_eq_true, decide_eq_true_eq, zA8];omega
theorem core_eq {c s y l : Int} {u : zBi} (h1 : 1 ≤ l) : (zEF c s y l u && zBS l u) = zD1 c s y l u := by
 unfold zEF zD1;cases a : zCd u
 ·simp
 ·have b := zIs a;have k : zGU l u = zEt l u.1 := by
   unfold zGU zEt;refine zE2 fun row hrow => zE2 fun v hv => ?_;obtain ⟨i, f⟩ := List.getElem?_of_mem hrow;obtain ⟨j, o⟩ := List.getElem?_of_mem hv;obtain ⟨-, -, m, -, g⟩ := b;refine way_in h1 ?_;rcases (g i row f).2.2.1 j v o with q | ⟨q, -⟩
   ·exact .inl q
   ·simp only [zCC, decide_eq_true_eq] at q;exact .inr q.1
  have n : decide (u.2.2.2.2.1.1 < l) = zDY l u.2.2.2.2.1 := by
   refine way_in h1 ?_;have q : zGI u = true := by
    unfold zCd at a;simp only [Bool.and_eq_true] at a;exact a.2.2.2.2.2.2.2
   unfold zGI at q;split at q
   ·simp only [Bool.and_eq_true, Bool.or_eq_true, zEx, zCC, zA8, decide_eq_true_eq] at q;rcases q.1 with d | d
    ·exact .inr (by omega)
    ·exact .inr d.1
   ·exact .inl q
  unfold zBS zDS;rw [k, n];cases decide ((u.1.1.length : Int) = s) <;> cases decide ((zB8 u.1 : Int) = y) <;> cases decide (zDk c s y l u.2.1 = 0) <;> cases zEt l u.1 <;> cases zDY l u.2.2.2.2.1 <;> rfl
theorem dma_eq {c s y l : Int} {x : zFt} (hc : zBe c s y l = 0) : (zF2 x && decide (zDd c s y l x.1 = 0)) = (zMP x && decide (zDd c s y l x.1 = 0)) := by
 unfold zF2;by_cases b : zDd c s y l x.1 = 0
 ·have hl := (zDp hc).2;have q : x.1.all zE1 = true := by
   unfold zDd at b;rw [if_pos hc] at b;split at b
   ·split at b
    ·split at b
     ·rename_i a
      refine List.all_eq_true.2 fun u hu => ?_;have := List.all_eq_true.1 a u hu;simp only [zFy, zA8, decide_eq_true_eq] at this;simp only [zE1, zA8, decide_eq_true_eq];omega
     ·cases b
    ·cases b
   ·cases b
  rw [q, Bool.and_true]
 ·rw [decide_eq_false b, Bool.and_false, Bool.and_false]
noncomputable def zFj (x : zA2) : Bool := decide (zBe x.1.1 x.1.2.1 x.1.2.2.1 x.1.2.2.2 = 0) && (zDl x && (zDm x && (zGT x && (zGP x && (decide (x.2.2.2.2.2.length ≤ 200) && x.2.2.2.2.2.all evB)))))
theorem fab_eq (x : zA2) : zEc x = zFj x := by
 unfold zEc zFj zDM;by_cases b : zBe x.1.1 x.1.2.1 x.1.2.2.1 x.1.2.2.2 = 0
 ·obtain ⟨⟨d, c⟩, g, i⟩ := zDp b;rw [decide_eq_true b];have e1 : (zCe x.2.1 && x.2.1.2.all (zI3 x.1.1)) = (zCe x.2.1 && x.2.1.2.all (zJC x.1.1)) := by
   cases a : zCe x.2.1
   ·rfl
   ·have q : ∀ e ∈ x.2.1.2, zDD e = true := by
      unfold zCe at a;simp only [Bool.and_eq_true] at a;exact List.all_eq_true.1 a.2.2
    rw [zE2 fun e he => ent_eq d c (q e he)]
  have e2 : (zIF x.2.2.2.2.1 && x.2.2.2.2.1.all (zGf x.1.1 x.1.2.2.2)) = (zIF x.2.2.2.2.1 && x.2.2.2.2.1.all (zIi x.1.1 x.1.2.2.2)) := by
   cases a : zIF x.2.2.2.2.1
   ·rfl
   ·have q : ∀ m ∈ x.2.2.2.2.1, zD4 m = true := by
      unfold zIF at a;rw [Bool.and_eq_true] at a;exact List.all_eq_true.1 a.2
    rw [zE2 fun m hm => msg_eq d c (q m hm)]
  have f : (x.2.2.1.all (zEF x.1.1 x.1.2.1 x.1.2.2.1 x.1.2.2.2) && x.2.2.1.all (zBS x.1.2.2.2)) = x.2.2.1.all (zD1 x.1.1 x.1.2.1 x.1.2.2.1 x.1.2.2.2) := by
   rw [all_both];exact zE2 fun u _ => core_eq g
  have e4 := dma_eq (x := x.2.2.2.1) b;unfold zDl zDm zGT zGP;generalize zCe x.2.1 = h0 at *;generalize x.2.1.2.all (zI3 x.1.1) = h1 at *;generalize x.2.1.2.all (zJC x.1.1) = h2 at *;generalize zIF x.2.2.2.2.1 = n0 at *;generalize x.2.2.2.2.1.all (zGf x.1.1 x.1.2.2.2) = n1 at *;generalize x.2.2.2.2.1.all (zIi x.1.1 x.1.2.2.2) = n2 at *;generalize x.2.2.1.all (zEF x.1.1 x.1.2.1 x.1.2.2.1 x.1.2.2.2) = k1 at *;generalize x.2.2.1.all (zBS x.1.2.2.2) = k2 at *;generalize x.2.2.1.all (zD1 x.1.1 x.1.2.1 x.1.2.2.1 x.1.2.2.2) = k3 at *;generalize zF2 x.2.2.2.1 = d1 at *;generalize zMP x.2.2.2.1 = d2 at *;generalize decide (zDd x.1.1 x.1.2.1 x.1.2.2.1 x.1.2.2.2 x.2.2.2.1.1 = 0) = d3 at *;generalize decide ((x.2.1.2.length : Int) = x.1.2.2.2) = z1;generalize decide ((x.2.2.1.length : Int) = x.1.1) = z2;generalize decide (x.2.2.2.2.2.length ≤ 200) = z3;generalize x.2.2.2.2.2.all evB = z4;subst f;cases h0 <;> cases n0 <;> cases d3 <;> cases z1 <;> cases z2 <;> cases z3 <;> cases z4 <;> simp_all
  cases h2 <;> cases n2 <;> cases k1 <;> cases k2 <;> cases d2 <;> rfl
 ·rw [decide_eq_false b];simp
theorem prog_len {c s y l : Int} {p : List OpD} (h : zDk c s y l p = 0) : p.length ≤ 30 := by
 unfold zDk at h;split at h
 ·split at h
  ·assumption
  ·cases h
 ·cases h
theorem zJM {x : zA2} (h : zFj x = true) : (1 ≤ x.1.1 ∧ x.1.1 ≤ 4) ∧ (x.2.2.1.length : Int) = x.1.1 ∧ x.2.2.2.1.1.length ≤ 30 ∧ (0 ≤ x.2.2.2.1.2.1 ∧ x.2.2.2.1.2.1 ≤ (x.2.2.2.1.1.length : Int)) ∧ ∀ u ∈ x.2.2.1, u.2.1.length ≤ 30 := by
 unfold zFj at h;simp only [Bool.and_eq_true, decide_eq_true_eq] at h;obtain ⟨c, -, a, b, -, -, -⟩ := h;unfold zDm at a;simp only [Bool.and_eq_true, decide_eq_true_eq] at a;unfold zGT zMP zFT zCV at b;simp only [Bool.and_eq_true, decide_eq_true_eq, zA8] at b;refine ⟨(zDp c).1, a.1, b.1.1.1, b.1.2.1, fun u hu => ?_⟩;have q := List.all_eq_true.1 a.2 u hu;unfold zD1 at q;simp only [Bool.and_eq_true, decide_eq_true_eq] at q;exact prog_len q.2.1
def zCc (c : zA7) (k : Int) : zC3 := match atC c k with
 | some j => (zB1 c k).getD j zB0
 | none => zB0
def stateOf (u : zBi) (k : Int) : Int := (zCc u.1 k).2.1
noncomputable def zI4 (x : zA2) (k : Int) : Bool := zFj x && (decide (0 ≤ k) && decide (k < x.1.2.2.2))
theorem zI5 {x : zA2} (h : zFj x = true) {u : zBi} (hu : u ∈ x.2.2.1) : OkC isL zAH u.1 := by
 unfold zFj at h;simp only [Bool.and_eq_true, decide_eq_true_eq] at h;obtain ⟨hc, -, a, -⟩ := h;unfold zDm at a;simp only [Bool.and_eq_true, decide_eq_true_eq] at a;have q := List.all_eq_true.1 a.2 u hu;unfold zD1 at q;simp only [Bool.and_eq_true, decide_eq_true_eq] at q;exact zIs q.1
theorem zJN {x : zA2} (h : zFj x = true) : (1 ≤ x.1.2.2.2 ∧ x.1.2.2.2 ≤ 16) ∧ (x.2.1.2.length : Int) = x.1.2.2.2 := by
 unfold zFj at h;simp only [Bool.and_eq_true, decide_eq_true_eq] at h;obtain ⟨b, a, -⟩ := h;unfold zDl at a;simp only [Bool.and_eq_true, decide_eq_true_eq] at a;exact ⟨(zDp b).2, a.2.1⟩
theorem bk_mem {α : Type} {M : Mk α} : ∀ {xs : List α} {x : α}, x ∈ xs → M.bk x ≤ zA6 M xs
 | y :: xs, x, h => by
  have e : zA6 M (y :: xs) = M.bk y + zA6 M xs := by simp [zA6]
  rw [e];rcases List.mem_cons.1 h with rfl | h
  ·omega
  ·have := bk_mem (M := M) h;omega
theorem zOM {α : Type} {M : Mk α} {xs : List α} {x : α} (h : x ∈ xs) : M.bk x ≤ (slM M).bk xs := by
 have := bk_mem (M := M) h;show M.bk x ≤ xs.length + zA6 M xs
 omega
theorem zKT (d : List Int) : d.length ≤ zAs.bk d := Nat.le_add_right _ _
theorem way_bk (u : zC3) : u.2.2.length ≤ zCz.bk u := by
 have := zKT u.2.2;show u.2.2.length ≤ 0 + (0 + zAs.bk u.2.2)
 omega
theorem zLH {c : zA7} (h : OkC isL zAH c) (k : Int) : (zCc c k).2.2.length ≤ zCO.bk c := by
 cases a : atC c k with
 | none =>
  have d : zCc c k = zB0 := by unfold zCc; rw [a]
  rw [d];exact Nat.zero_le _
 | some fi =>
  obtain ⟨g, u, f, i⟩ := zER a;have d : zCc c k = u := by unfold zCc; rw [a]; simp only; rw [List.getD_eq_getElem?_getD, f]; rfl
  rw [d];obtain ⟨hp, b, -⟩ := zFQ h k;have h1 := way_bk u;have h2 : zCz.bk u ≤ zB6.bk (zB1 c k) := zOM (M := zCz) (List.mem_of_getElem? f);have h3 : zB6.bk (zB1 c k) ≤ zBy.bk c.1 := zOM (M := zB6) (List.mem_of_getElem? b);show u.2.2.length ≤ zBy.bk c.1 + zAs.bk c.2
  omega
theorem zI6 {x : zA2} {u : zBi} (h : u ∈ x.2.2.1) : zCO.bk u.1 ≤ zAX.bk x ∧ u.2.2.2.2.1.2.2.length ≤ zAX.bk x := by
 have h1 := zOM (M := zBt) h;have h2 := way_bk u.2.2.2.2.1;have e : zBt.bk u = zCO.bk u.1 + (zD2.bk u.2.1 + (0 + (0 + (zCz.bk u.2.2.2.2.1 + zAs.bk u.2.2.2.2.2)))) := rfl;have f : zAX.bk x = 0 + (zAU.bk x.2.1 + (zBj.bk x.2.2.1 + (zEo.bk x.2.2.2.1 + (zCI.bk x.2.2.2.2.1 + zBb.bk x.2.2.2.2.2)))) := rfl;have g : zBj.bk x.2.2.1 = (slM zBt).bk x.2.2.1 := rfl;omega
theorem net_bk {x : zA2} {m : zDy} (h : m ∈ x.2.2.2.2.1) : m.2.2.2.2.2.1.length ≤ zAX.bk x := by
 have h1 := zOM (M := zDj) h;have h2 := zKT m.2.2.2.2.2.1;have e : zDj.bk m = 0 + (0 + (0 + (0 + (0 + (zAs.bk m.2.2.2.2.2.1 + 0))))) := rfl;have f : zAX.bk x = 0 + (zAU.bk x.2.1 + (zBj.bk x.2.2.1 + (zEo.bk x.2.2.2.1 + (zCI.bk x.2.2.2.2.1 + zBb.bk x.2.2.2.2.2)))) := rfl;have g : zCI.bk x.2.2.2.2.1 = (slM zDj).bk x.2.2.2.2.1 := rfl;omega
theorem mem_bk {x : zA2} {d : List Int} (h : d ∈ x.2.1.1) : d.length ≤ zAX.bk x := by
 have h1 := zOM (M := zAs) h;have h2 := zKT d;have e : zAU.bk x.2.1 = zBN.bk x.2.1.1 + zDw.bk x.2.1.2 := rfl;have f : zAX.bk x = 0 + (zAU.bk x.2.1 + (zBj.bk x.2.2.1 + (zEo.bk x.2.2.2.1 + (zCI.bk x.2.2.2.2.1 + zBb.bk x.2.2.2.2.2)))) := rfl;have g : zBN.bk x.2.1.1 = (slM zAs).bk x.2.1.1 := rfl;omega
def zF0 (k : Int) (u : zBi) : Bool := decide (2 ≤ stateOf u k)
def zGg (k : Int) (u : zBi) : Bool := decide (u.2.2.2.2.1.1 = k) && decide (2 ≤ u.2.2.2.2.1.2.1)
def zHc (o k : Int) (m : zDy) : Bool := (decide (m.2.2.2.1 = 8) || decide (m.2.2.2.1 = 3)) && (decide (m.2.2.2.2.1 = k) && (decide (0 < m.2.2.2.2.2.1.length) && decide (m.2.1 = o)))
def zON (x : zA2) (k : Int) : Int := match x.2.1.2[k.toNat]? with
 | some e => e.1
 | none => -1
def zHv (x : zA2) (o k : Int) : List Int := match x.2.2.2.2.1.find? (zHc o k) with
 | some m => m.2.2.2.2.2.1
 | none => x.2.1.1.getD k.toNat []
def zGh (x : zA2) (o k : Int) : List Int := if 0 ≤ o then (match x.2.2.1[o.toNat]? with
 | some u => if zGg k u = true then u.2.2.2.2.1.2.2 else zHv x o k
 | none => []) else zHv x o k
def zB5 (x : zA2) (k : Int) : List Int := match x.2.2.1.find? (zF0 k) with
 | some u => (zCc u.1 k).2.2
 | none => zGh x (zON x k) k
noncomputable def zHw (x : zA2) (k : Int) : List Int := if zI4 x k = true then zB5 x k else []
def NoP {α : Type} (p : α → Bool) (xs : List α) (j : Nat) : Prop := ∀ i v, i < j → xs[i]? = some v → p v = false
theorem zGV {α : Type} {p : α → Bool} : ∀ {xs : List α} {j : Nat} {u : α}, xs[j]? = some u → p u = true → NoP p xs j → xs.find? p = some u
 | x :: xs, 0, u, h, hp, _ => by
  simp only [List.getElem?_cons_zero, Option.some.injEq] at h;subst h;rw [List.find?_cons_of_pos hp]
 | x :: xs, j + 1, u, h, hp, hn => by
  have a := hn 0 x (by omega) rfl;rw [List.find?_cons_of_neg (by rw [a]; exact Bool.false_ne_true)];exact zGV (by simpa using h) hp fun i v hi hv => hn (i + 1) v (by omega) (by simpa using hv)
theorem zGW {α : Type} {p : α → Bool} {xs : List α} (h : ∀ (i : Nat) v, xs[i]? = some v → p v = false) : xs.find? p = none := by
 rw [List.find?_eq_none];intro v b;obtain ⟨i, a⟩ := List.getElem?_of_mem b;rw [h i v a];exact Bool.false_ne_true
theorem zI7 {α : Type} {p : α → Bool} {xs : List α} {k : Nat} {u : α} (hno : NoP p xs k) (hx : xs[k]? = some u) (hb : p u = false) : NoP p xs (k + 1) := fun j v hj hv => by
 by_cases a : j < k
 ·exact hno j v a hv
 ·have : j = k := by omega
  subst this;rw [hx] at hv;cases hv;exact hb
theorem zLI {x : zA2} (h : zFj x = true) {e : zAW} (he : e ∈ x.2.1.2) : e.1 < x.1.1 := by
 rw [← fab_eq] at h;unfold zEc at h;simp only [Bool.and_eq_true] at h;have q := List.all_eq_true.1 h.2.2.2.1 e he;unfold zI3 at q;simp only [Bool.and_eq_true, decide_eq_true_eq] at q;exact q.1
theorem zOO {x : zA2} (h : zFj x = true) : x.2.1.2.length = x.2.1.1.length := by
 unfold zFj at h;simp only [Bool.and_eq_true, decide_eq_true_eq] at h;obtain ⟨hc, a, -⟩ := h;unfold zDl zCe at a;simp only [Bool.and_eq_true, decide_eq_true_eq] at a;exact a.1.2.1
theorem zI8 {w : World} {g : Nat} {cs : Array Value} {t : TypeId} (h : w.heap[g]? = some (.cells cs t (0, 0))) : w.frozen? ⟨g, 0, none⟩ = false ∧ w.frozen? ⟨g, 1, none⟩ = false ∧ w.frozen? ⟨g, 2, none⟩ = false :=
 ⟨frozen_of_row w g 0 _ _ h, frozen_of_row w g 1 _ _ h, frozen_of_row w g 2 _ _ h⟩
theorem zOP (A : List Value) (c : zA7) (k : Int) (w : World) (hok : OkC isL zAH c) (h : zBQ.rd w A c) :
    Calls Tryz.prog 103 #[zBq A, .int .i64 k] w fun e H => ∃ us, e = .returned (zBq us) ∧ zBu.rd H us (zCc c k) ∧ Below w.heap.size w H := by
 have j : Hid _ := fun (W : World) (hb : Below w.heap.size w W) => specAt_u A c k W hok (zAr h hb);obtain ⟨a, i, b, y, rfl, l1, l2, m1, m2, F, h2⟩ := zBO h;cases f : atC c k with
 | none =>
  rw [f] at j;have E : zCc c k = zB0 := by unfold zCc; rw [f]
  rw [E];clear h F h2 hok f E;rw [show zBq _ = .agg _ from rfl] at j ⊢;have X := zA3 (.cells #[.int .i64 0, .int .i64 0, .slice none 0 0] 88) (zAn w (.cells #[.slice a c.1.length i, .slice b c.2.length y] 92));have Y := zAn (w.alloc (.cells #[.slice a c.1.length i, .slice b c.2.length y] 92)) (.cells #[.int .i64 0, .int .i64 0, .slice none 0 0] 88);rw [zAv] at Y;have B := zAa (zAf w (.cells #[.slice a c.1.length i, .slice b c.2.length y] 92)) (zAf _ (.cells #[.int .i64 0, .int .i64 0, .slice none 0 0] 88));go_enter Tryz.func103, Tryz.ntmps103;go_wp2_with fail
  generalize (w.alloc (.cells #[.slice a c.1.length i, .slice b c.2.length y] 92)).alloc (.cells #[.int .i64 0, .int .i64 0, .slice none 0 0] 88) = W0 at X Y B ⊢;refine (j.out _ B).mono ?_;rintro e w1 ⟨rfl, s⟩;replace X := zAb s X;replace Y := zAb s Y;replace B := zAa B s;clear s X j;rw [show zM6 (none : Option Nat) = -1 from rfl];go_wp2_with fail
  refine (zO0 _).mono ?_;rintro e w2 ⟨ds, rfl, D⟩;have J := D.2;obtain ⟨m, l, rfl, -, -, -, -, hq⟩ := zBz (zBu.own_rd D.1);rw [show zBq [.int .i64 zB0.1, .int .i64 zB0.2.1, .slice m zB0.2.2.length l] = .agg #[.int .i64 (-1), .int .i64 0, .slice m 0 l] from rfl];have C := zLU (R := zBu) D;have yl := (ltH Y);replace Y := zAb J Y;replace B := zAa B J;obtain ⟨y0, y1, y2⟩ := zAJ Y;obtain ⟨f0, f1, f2⟩ := zI8 Y;have HZ : Hid _ := And.intro Y (And.intro B C);clear Y B C D J hq;go_wp2;obtain ⟨Y, B, C⟩ := HZ.out;have V := zFq (g := w.heap.size + 1) [.int .i64 (-1), .int .i64 0, .slice m 0 l] 0 Y;obtain ⟨r0, r1, r2⟩ := zAJ (show (((w2.setCell ⟨w.heap.size + 1, 0, none⟩ (.int .i64 (-1))).setCell ⟨w.heap.size + 1, 1, none⟩ (.int .i64 0)).setCell ⟨w.heap.size + 1, 2, none⟩ (.slice m 0 l)).heap[w.heap.size + 1]? = some (.cells #[.int .i64 (-1), .int .i64 0, .slice m 0 l] 88 (0, 0)) from V);refine bodyPost_ret (v := .agg #[.int .i64 (-1), .int .i64 0, .slice m 0 l]) (by simp [results, Tryz.results103, go_sem, r0, r1, r2]) rfl ⟨[.int .i64 (-1), .int .i64 0, .slice m 0 l], rfl, ?_, zFL (g := w.heap.size + 1) (o := 0) (vs := [.int .i64 (-1), .int .i64 0, .slice m 0 l]) B (by omega)⟩;exact zBu.own_rd (zNI (g := w.heap.size + 1) (o := 0) (vs := [.int .i64 (-1), .int .i64 0, .slice m 0 l]) C.1 (fun q => by have := q.1; omega))
 | some fi =>
  obtain ⟨fA, u, L, U⟩ := zER f;have E : zCc c k = u := by unfold zCc; rw [f]; simp only; rw [List.getD_eq_getElem?_getD, L]; rfl
  rw [E];obtain ⟨hp, z, mA, pA, M, Z⟩ := zFQ hok k;obtain ⟨b0, o0, aj, T, rfl, S, -, -, G⟩ := zDV F z;obtain ⟨bj, p, A, rfl, n, d⟩ := zAy G L;have r := n;obtain ⟨ad, I, rfl, i1, i2, -, -, iA⟩ := zBz n;have O := d 0 _ rfl;have K := d 1 _ rfl;have N := d 2 _ rfl;rw [show p + (fi * zBu.size + 0) = p + fi * 3 from rfl] at O;rw [show p + (fi * zBu.size + 1) = p + fi * 3 + 1 from rfl] at K;rw [show p + (fi * zBu.size + 2) = p + fi * 3 + 2 from rfl] at N;refine (zL8 b c i y b0 o0 bj p T fi I ad k u.1 u.2.1 u.2.2 w hok F f S O K N).mono ?_;rintro e H ⟨rfl, s⟩;exact ⟨_, rfl, zAr r s, s⟩
theorem way_nil {w W : World} {us : List Value} (h : zBu.rd w us zB0) : zBu.rd W us zB0 := by
 obtain ⟨g, c, rfl, d, b, f, a, -⟩ := zBz h;exact ⟨[_], [_, _], rfl, ⟨rfl, d⟩, [_], [_], rfl, ⟨rfl, b⟩, g, c, rfl, f, a, .inl rfl⟩
theorem zHH {w : World} {u : zBi} {v0 v1 v2 v3 v4 v5 v6 v7 v8 : Value} (h : zAB.rd w [v0, v1, v2, v3, v4, v5, v6, v7, v8] u) : zBQ.rd w [v0, v1] u.1 := by
 obtain ⟨z0, z1, z2, z5, z6, z7, z8, e, a, -⟩ := zC7 h;simp only [List.cons.injEq, and_true] at e;obtain ⟨rfl, rfl, -⟩ := e;exact a
theorem zOQ (m : List Value) (c : zA7) (k : Int) (w W : World) (hok : OkC isL zAH c) (h : zBQ.rd w m c) (hb : Below w.heap.size w W) :
    Calls Tryz.prog 103 #[zBq m, .int .i64 k] W fun e q => ∃ n, e = .returned (zBq n) ∧ (∀ W', Below w.heap.size w W' → zBu.rd W' n (zCc c k)) ∧ Below W.heap.size W q := by
 cases f : atC c k with
 | none =>
  have z : zCc c k = zB0 := by unfold zCc; rw [f]
  refine (zOP m c k W hok (zAr h hb)).mono ?_;rintro e q ⟨n, rfl, E, y⟩;refine ⟨n, rfl, fun W' _ => ?_, y⟩;rw [z] at E ⊢;exact way_nil E
 | some fi =>
  obtain ⟨a, r, b, K, rfl, l1, l2, m1, m2, B, h2⟩ := zBO h;obtain ⟨L, u, D, H⟩ := zER f;have z : zCc c k = u := by unfold zCc; rw [f]; simp only; rw [List.getD_eq_getElem?_getD, D]; rfl
  rw [z];obtain ⟨hp, l, R, T, F, I⟩ := zFQ hok k;obtain ⟨O, S, aj, G, rfl, C, -, -, p⟩ := zDV B l;obtain ⟨M, i, m, rfl, g, d⟩ := zAy p D;have j := g;obtain ⟨J, s, rfl, i1, i2, -, -, N⟩ := zBz g;have A := d 0 _ rfl;have o := d 1 _ rfl;have v := d 2 _ rfl;rw [show i + (fi * zBu.size + 0) = i + fi * 3 from rfl] at A;rw [show i + (fi * zBu.size + 1) = i + fi * 3 + 1 from rfl] at o;rw [show i + (fi * zBu.size + 2) = i + fi * 3 + 2 from rfl] at v;refine (zL8 b c r K O S M i G fi s J k u.1 u.2.1 u.2.2 W hok (zAm B hb) f (zAe hb C (zAk C)) (zAe hb A (zAk A)) (zAe hb o (zAk o)) (zAe hb v (zAk v))).mono ?_;rintro e q ⟨rfl, y⟩;exact ⟨_, rfl, fun W' hb' => zAr j hb', y⟩
theorem l17Has_u (cs : List Value) (u : zBi) (k : Int) (w W : World) (hok : OkC isL zAH u.1) (h : zAB.rd w cs u) (hb : Below w.heap.size w W) :
    Calls Tryz.prog 55 #[zBq cs, .int .i64 k] W fun e w' => ∃ D, e = .returned (zBq D) ∧ (∀ W', Below w.heap.size w W' → zBu.rd W' D (zCc u.1 k)) ∧ Below W.heap.size W w' := by
 obtain ⟨d, l, j, i, q, n, s, A, r, p, rfl⟩ := zBd h;have G : Hid _ := fun (V : World) (hv : Below w.heap.size w V) => zOQ [.slice d u.1.1.length l, .slice j u.1.2.length i] u.1 k w V hok (zHH h) hv;rw [show zBq _ = .agg _ from rfl];have X := zA3 (.cells #[.int .i64 0, .int .i64 0, .slice none 0 0] 88) (zAn W (.cells #[.slice d u.1.1.length l, .slice j u.1.2.length i, .slice q u.2.1.length n, .int .i64 u.2.2.1, .int .i64 u.2.2.2.1, .int .i64 u.2.2.2.2.1.1, .int .i64 u.2.2.2.2.1.2.1, .slice s u.2.2.2.2.1.2.2.length A, .slice r u.2.2.2.2.2.length p] 95));have Y := zAn (W.alloc (.cells #[.slice d u.1.1.length l, .slice j u.1.2.length i, .slice q u.2.1.length n, .int .i64 u.2.2.1, .int .i64 u.2.2.2.1, .int .i64 u.2.2.2.2.1.1, .int .i64 u.2.2.2.2.1.2.1, .slice s u.2.2.2.2.1.2.2.length A, .slice r u.2.2.2.2.2.length p] 95)) (.cells #[.int .i64 0, .int .i64 0, .slice none 0 0] 88);rw [zAv] at Y;have B := zAa (zAf W (.cells #[.slice d u.1.1.length l, .slice j u.1.2.length i, .slice q u.2.1.length n, .int .i64 u.2.2.1, .int .i64 u.2.2.2.1, .int .i64 u.2.2.2.2.1.1, .int .i64 u.2.2.2.2.1.2.1, .slice s u.2.2.2.2.1.2.2.length A, .slice r u.2.2.2.2.2.length p] 95)) (zAf _ (.cells #[.int .i64 0, .int .i64 0, .slice none 0 0] 88));have f : Hid _ := hb;have U := hb.size;clear h hok hb;go_enter Tryz.func55, Tryz.ntmps55;go_upto_region 1 with fail
 generalize (W.alloc (.cells #[.slice d u.1.1.length l, .slice j u.1.2.length i, .slice q u.2.1.length n, .int .i64 u.2.2.1, .int .i64 u.2.2.2.1, .int .i64 u.2.2.2.2.1.1, .int .i64 u.2.2.2.2.1.2.1, .slice s u.2.2.2.2.1.2.2.length A, .slice r u.2.2.2.2.2.length p] 95)).alloc (.cells #[.int .i64 0, .int .i64 0, .slice none 0 0] 88) = W0 at X Y B ⊢;obtain ⟨R, K, T, S, Z, H, O, x7, M⟩ := zAh X;go_wp2_with fail
 clear R K T S Z H O x7 M X;refine (G.out _ (zAa f.out B)).mono ?_;rintro e E ⟨D, rfl, c, z⟩;clear G;have m := c E (zAa (zAa f.out B) z);obtain ⟨b, a, rfl, -, -, -, -, -⟩ := zBz m;rw [show zBq _ = .agg _ from rfl];have yl := (ltH Y);replace Y := zAb z Y;replace B := zAa B z;obtain ⟨y0, y1, y2⟩ := zAJ Y;obtain ⟨f0, f1, f2⟩ := zI8 Y;have F : Hid _ := And.intro Y (And.intro B c);clear Y B m z c;generalize C : zCc u.1 k = y at F ⊢;go_wp2;obtain ⟨Y, B, c⟩ := F.out;have V := zFq (g := W.heap.size + 1) [.int .i64 y.1, .int .i64 y.2.1, .slice b y.2.2.length a] 0 Y;obtain ⟨I, N, J⟩ := zAJ (show (((E.setCell ⟨W.heap.size + 1, 0, none⟩ (.int .i64 y.1)).setCell ⟨W.heap.size + 1, 1, none⟩ (.int .i64 y.2.1)).setCell ⟨W.heap.size + 1, 2, none⟩ (.slice b y.2.2.length a)).heap[W.heap.size + 1]? = some (.cells #[.int .i64 y.1, .int .i64 y.2.1, .slice b y.2.2.length a] 88 (0, 0)) from V);have L := zFL (g := W.heap.size + 1) (o := 0) (vs := [.int .i64 y.1, .int .i64 y.2.1, .slice b y.2.2.length a]) B (by omega);refine bodyPost_ret (v := .agg #[.int .i64 y.1, .int .i64 y.2.1, .slice b y.2.2.length a]) (by simp [results, Tryz.results55, go_sem, I, N, J]) rfl ⟨[.int .i64 y.1, .int .i64 y.2.1, .slice b y.2.2.length a], rfl, fun W' hb' => by rw [C]; exact c W' hb', L⟩
end Go.Proofs.YtcocbafhcpdheaaGreatDoor
