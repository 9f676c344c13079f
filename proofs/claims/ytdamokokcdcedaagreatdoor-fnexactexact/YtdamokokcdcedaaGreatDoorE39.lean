import Derived.Test.YtdamokokcdcedaaGreatDoorE00Box
import Derived.Test.YtdamokokcdcedaaGreatDoorE37
import Derived.Test.YtdamokokcdcedaaGreatDoorE38
namespace Go.Proofs.YtdamokokcdcedaaGreatDoor
open Go.ChangeShapes Go.WideShapes Go.ChangeAt Go.RowKit
set_option linter.unusedVariables false
def headF (x : FabricD) : Bool := decide (codeI x.1.1 x.1.2.1 x.1.2.2.1 x.1.2.2.2 = 0) && (houseB x.2.1 && (decide ((x.2.1.2.length : Int) = x.1.2.2.2) && (decide ((x.2.2.1.length : Int) = x.1.1) && (dmaS x.2.2.2.1 && (decide (descI x.1.1 x.1.2.1 x.1.2.2.1 x.1.2.2.2 x.2.2.2.1.1 = 0) && (netB x.2.2.2.2.1 && decide (x.2.2.2.2.2.length ≤ 200)))))))
noncomputable def coreS (c s y l : Int) (u : CoreD) : Bool := coreB u && (decide ((u.1.1.length : Int) = s) && (decide ((waysN u.1 : Int) = y) && decide (progI c s y l u.2.1 = 0)))
def entS (c : Int) (e : EntryD) : Bool := decide (e.1 < c) && (decide (e.2.1 < 2 ^ c.toNat) && !(decide (e.2.2.2.2.1 < 4) && decide (c ≤ e.2.2.2.2.1)))
def msgS (c l : Int) (m : MsgD) : Bool := decide (m.2.2.2.2.1 < l) && (!(decide (m.2.1 < 4) && decide (c ≤ m.2.1)) && !(decide (m.2.2.1 < 4) && decide (c ≤ m.2.2.1)))
noncomputable def fabS (x : FabricD) : Bool := headF x && (x.2.2.1.all (coreS x.1.1 x.1.2.1 x.1.2.2.1 x.1.2.2.2) && (x.2.2.1.all (linesIn x.1.2.2.2) && (x.2.1.2.all (entS x.1.1) && (x.2.2.2.2.1.all (msgS x.1.1 x.1.2.2.2) && x.2.2.2.2.2.all evB))))
theorem all_congr {α : Type} {p q : α → Bool} {xs : List α} (h : ∀ a ∈ xs, p a = q a) : xs.all p = xs.all q := by
 induction xs with
 | nil => rfl
 | cons a xs ih => rw [List.all_cons, List.all_cons, h a (List.mem_cons_self ..), ih fun b hb => h b (List.mem_cons_of_mem _ hb)]
theorem all_both {α : Type} {p q : α → Bool} {xs : List α} : (xs.all p && xs.all q) = xs.all fun a => p a && q a := by
 induction xs with
 | nil => rfl
 | cons a xs ih =>
  rw [List.all_cons, List.all_cons, List.all_cons, ← ih];cases p a <;> cases q a <;> cases xs.all p <;> cases xs.all q <;> rfl
set_option linter.unusedSimpArgs false
theorem shar_fin : ∀ c : Fin 5, ∀ s : Fin 16, (mems (s.val : Int) 8).all (fun k => betw k 0 ((c.val : Int) - 1)) = decide ((s.val : Int) < 2 ^ c.val) := by decide +kernel
theorem bool_iff {a b : Bool} (h : a = true ↔ b = true) : a = b := by
 cases a <;> cases b <;> simp_all
theorem ent_eq {c : Int} {e : EntryD} (h1 : 1 ≤ c) (h4 : c ≤ 4) (h : entB e = true) : entS c e = entIn c e := by
 have m : whoB e.1 e.2.1 = true := by unfold entB at h; rw [Bool.and_eq_true] at h; exact h.1
 have g : (0 ≤ e.2.2.2.2.1 ∧ e.2.2.2.2.1 ≤ 3) ∨ e.2.2.2.2.1 = 5 := by
  unfold entB at h;rw [Bool.and_eq_true] at h;have q := h.2;cases l : e.2.2.1
  ·rw [l] at q;simp only [Bool.false_eq_true, if_false, restB, Bool.and_eq_true, decide_eq_true_eq] at q;omega
  ·rw [l] at q;simp only [if_true, busyB, fromB, betw, Bool.and_eq_true, decide_eq_true_eq] at q;have k := q.2.2.1;split at k
   ·simp only [decide_eq_true_eq] at k;omega
   ·simp only [Bool.and_eq_true, decide_eq_true_eq] at k;omega
 unfold entIn holdE;rw [if_pos h];have r : (hoI e.1 e.2.1).all (coreIn c) = (decide (e.1 < c) && decide (e.2.1 < 2 ^ c.toNat)) := by
  simp only [whoB, betw, Bool.and_eq_true, decide_eq_true_eq, Bool.not_eq_true', Bool.and_eq_false_iff, decide_eq_false_iff_not, Bool.not_eq_false'] at m;obtain ⟨w1, w2, f⟩ := m;unfold hoI;by_cases i : 0 ≤ e.1
  ·have j : e.2.1 = 0 := by
     rcases f with f | f
     ·exact absurd i f
     ·exact f
   rw [if_pos i, j];have o : (0 : Int) < 2 ^ c.toNat := Int.pow_pos (by decide);rw [decide_eq_true o, Bool.and_true];simp only [List.all_cons, List.all_nil, Bool.and_true, coreIn, betw];refine bool_iff ?_;simp only [decide_eq_true_eq];omega
  ·rw [if_neg i, decide_eq_true (show e.1 < c by omega), Bool.true_and];obtain ⟨s, j⟩ : ∃ s : Fin 16, (s.val : Int) = e.2.1 := ⟨⟨e.2.1.toNat, by omega⟩, by simp; omega⟩;obtain ⟨n, p⟩ : ∃ n : Fin 5, (n.val : Int) = c := ⟨⟨c.toNat, by omega⟩, by simp; omega⟩;have q := shar_fin n s;rw [j, p] at q;rw [show c.toNat = n.val from by omega];exact q
 rw [r];unfold entS agentIn coreIn;refine bool_iff ?_;simp only [Bool.and_eq_true, Bool.or_eq_true, decide_eq_true_eq, Bool.not_eq_true', Bool.and_eq_false_iff, decide_eq_false_iff_not, betw];constructor
 ·rintro ⟨a, b, d⟩;refine ⟨?_, a, b⟩;rcases g with g | g
  ·exact .inr (.inr (by omega))
  ·exact .inr (.inl g)
 ·rintro ⟨a, b, d⟩;exact ⟨b, d, by omega⟩
theorem msg_eq {c l : Int} {m : MsgD} (h1 : 1 ≤ c) (h4 : c ≤ 4) (h : msgB m = true) : msgS c l m = msgIn c l m := by
 have hm : (0 ≤ m.2.1 ∧ m.2.1 ≤ 5) ∧ (0 ≤ m.2.2.1 ∧ m.2.2.1 ≤ 5) ∧ (0 ≤ m.2.2.2.2.1 ∧ m.2.2.2.2.1 ≤ 15) := by
  simp only [msgB, endsB, betw, Bool.and_eq_true, decide_eq_true_eq] at h;omega
 unfold msgS msgIn agentIn coreIn lineIn;refine bool_iff ?_;simp only [Bool.and_eq_true, Bool.or_eq_true, decide_eq_true_eq, Bool.not_eq_true', Bool.and_eq_false_iff, decide_eq_false_iff_not, betw];omega
theorem way_in {l : Int} {u : WayD} (h1 : 1 ≤ l) (h : clearB u = true ∨ (0 ≤ u.1 ∧ u.1 ≤ 15)) : decide (u.1 < l) = wayIn l u := by
 have hu : -1 ≤ u.1 := by
  rcases h with h | h
  ·simp only [clearB, decide_eq_true_eq] at h;omega
  ·omega
 unfold wayIn lineIn;refine bool_iff ?_;simp only [Bool.or_eq_true, decide_eq_true_eq, betw];omega
theorem core_eq {c s y l : Int} {u : CoreD} (h1 : 1 ≤ l) : (coreS c s y l u && linesIn l u) = coreFit c s y l u := by
 unfold coreS coreFit;cases a : coreB u
 ·simp
 ·have b := core_ok a;have g : rowsIn l u = waysIn l u.1 := by
   unfold rowsIn waysIn;refine all_congr fun row hrow => all_congr fun v hv => ?_;obtain ⟨i, f⟩ := List.getElem?_of_mem hrow;obtain ⟨j, n⟩ := List.getElem?_of_mem hv;obtain ⟨-, -, m, -, o⟩ := b;refine way_in h1 ?_;rcases (o i row f).2.2.1 j v n with q | ⟨q, -⟩
   ·exact .inl q
   ·simp only [fullB, decide_eq_true_eq] at q;exact .inr q.1
  have k : decide (u.2.2.2.2.1.1 < l) = wayIn l u.2.2.2.2.1 := by
   refine way_in h1 ?_;have q : restC u = true := by
    unfold coreB at a;simp only [Bool.and_eq_true] at a;exact a.2.2.2.2.2.2.2
   unfold restC at q;split at q
   ·simp only [Bool.and_eq_true, Bool.or_eq_true, goneB, fullB, betw, decide_eq_true_eq] at q;rcases q.1 with d | d
    ·exact .inr (by omega)
    ·exact .inr d.1
   ·exact .inl q
  unfold linesIn cacheIn;rw [g, k];cases decide ((u.1.1.length : Int) = s) <;> cases decide ((waysN u.1 : Int) = y) <;> cases decide (progI c s y l u.2.1 = 0) <;> cases waysIn l u.1 <;> cases wayIn l u.2.2.2.2.1 <;> rfl
theorem dma_eq {c s y l : Int} {x : DmaD} (hc : codeI c s y l = 0) : (dmaS x && decide (descI c s y l x.1 = 0)) = (dmaB x && decide (descI c s y l x.1 = 0)) := by
 unfold dmaS;by_cases b : descI c s y l x.1 = 0
 ·have hl := (code_cores hc).2;have q : x.1.all line15 = true := by
   unfold descI at b;rw [if_pos hc] at b;split at b
   ·split at b
    ·split at b
     ·rename_i a
      refine List.all_eq_true.2 fun u hu => ?_;have := List.all_eq_true.1 a u hu;simp only [dlnOk, betw, decide_eq_true_eq] at this;simp only [line15, betw, decide_eq_true_eq];omega
     ·cases b
    ·cases b
   ·cases b
  rw [q, Bool.and_true]
 ·rw [decide_eq_false b, Bool.and_false, Bool.and_false]
noncomputable def fabI (x : FabricD) : Bool := decide (codeI x.1.1 x.1.2.1 x.1.2.2.1 x.1.2.2.2 = 0) && (houseFit x && (coresFit x && (dmaFit x && (netFit x && (decide (x.2.2.2.2.2.length ≤ 200) && x.2.2.2.2.2.all evB)))))
theorem fab_eq (x : FabricD) : fabS x = fabI x := by
 unfold fabS fabI headF;by_cases b : codeI x.1.1 x.1.2.1 x.1.2.2.1 x.1.2.2.2 = 0
 ·obtain ⟨⟨c, d⟩, g, f⟩ := code_cores b;rw [decide_eq_true b];have e1 : (houseB x.2.1 && x.2.1.2.all (entS x.1.1)) = (houseB x.2.1 && x.2.1.2.all (entIn x.1.1)) := by
   cases a : houseB x.2.1
   ·rfl
   ·have q : ∀ e ∈ x.2.1.2, entB e = true := by
      unfold houseB at a;simp only [Bool.and_eq_true] at a;exact List.all_eq_true.1 a.2.2
    rw [all_congr fun e he => ent_eq c d (q e he)]
  have e2 : (netB x.2.2.2.2.1 && x.2.2.2.2.1.all (msgS x.1.1 x.1.2.2.2)) = (netB x.2.2.2.2.1 && x.2.2.2.2.1.all (msgIn x.1.1 x.1.2.2.2)) := by
   cases a : netB x.2.2.2.2.1
   ·rfl
   ·have q : ∀ m ∈ x.2.2.2.2.1, msgB m = true := by
      unfold netB at a;rw [Bool.and_eq_true] at a;exact List.all_eq_true.1 a.2
    rw [all_congr fun m hm => msg_eq c d (q m hm)]
  have i : (x.2.2.1.all (coreS x.1.1 x.1.2.1 x.1.2.2.1 x.1.2.2.2) && x.2.2.1.all (linesIn x.1.2.2.2)) = x.2.2.1.all (coreFit x.1.1 x.1.2.1 x.1.2.2.1 x.1.2.2.2) := by
   rw [all_both];exact all_congr fun u _ => core_eq g
  have e4 := dma_eq (x := x.2.2.2.1) b;unfold houseFit coresFit dmaFit netFit;generalize houseB x.2.1 = h0 at *;generalize x.2.1.2.all (entS x.1.1) = h1 at *;generalize x.2.1.2.all (entIn x.1.1) = h2 at *;generalize netB x.2.2.2.2.1 = n0 at *;generalize x.2.2.2.2.1.all (msgS x.1.1 x.1.2.2.2) = n1 at *;generalize x.2.2.2.2.1.all (msgIn x.1.1 x.1.2.2.2) = n2 at *;generalize x.2.2.1.all (coreS x.1.1 x.1.2.1 x.1.2.2.1 x.1.2.2.2) = k1 at *;generalize x.2.2.1.all (linesIn x.1.2.2.2) = k2 at *;generalize x.2.2.1.all (coreFit x.1.1 x.1.2.1 x.1.2.2.1 x.1.2.2.2) = k3 at *;generalize dmaS x.2.2.2.1 = d1 at *;generalize dmaB x.2.2.2.1 = d2 at *;generalize decide (descI x.1.1 x.1.2.1 x.1.2.2.1 x.1.2.2.2 x.2.2.2.1.1 = 0) = d3 at *;generalize decide ((x.2.1.2.length : Int) = x.1.2.2.2) = z1;generalize decide ((x.2.2.1.length : Int) = x.1.1) = z2;generalize decide (x.2.2.2.2.2.length ≤ 200) = z3;generalize x.2.2.2.2.2.all evB = z4;subst i;cases h0 <;> cases n0 <;> cases d3 <;> cases z1 <;> cases z2 <;> cases z3 <;> cases z4 <;> simp_all
  cases h2 <;> cases n2 <;> cases k1 <;> cases k2 <;> cases d2 <;> rfl
 ·rw [decide_eq_false b];simp
def idleC (u : CoreD) : Bool := !decide (u.2.2.1 < (u.2.1.length : Int))
def doneB (x : FabricD) : Bool := x.2.2.1.all idleC && !decide (x.2.2.2.1.2.1 < (x.2.2.2.1.1.length : Int))
noncomputable def finI (x : FabricD) : Bool := fabI x && (doneB x && decide (x.2.2.2.2.1.length = 0))
theorem prog_len {c s y l : Int} {p : List OpD} (h : progI c s y l p = 0) : p.length ≤ 30 := by
 unfold progI at h;split at h
 ·split at h
  ·assumption
  ·cases h
 ·cases h
theorem fab_facts {x : FabricD} (h : fabI x = true) : (1 ≤ x.1.1 ∧ x.1.1 ≤ 4) ∧ (x.2.2.1.length : Int) = x.1.1 ∧ x.2.2.2.1.1.length ≤ 30 ∧ (0 ≤ x.2.2.2.1.2.1 ∧ x.2.2.2.1.2.1 ≤ (x.2.2.2.1.1.length : Int)) ∧ ∀ u ∈ x.2.2.1, u.2.1.length ≤ 30 := by
 unfold fabI at h;simp only [Bool.and_eq_true, decide_eq_true_eq] at h;obtain ⟨c, -, b, a, -, -, -⟩ := h;unfold coresFit at b;simp only [Bool.and_eq_true, decide_eq_true_eq] at b;unfold dmaFit dmaB descsB placeB1 at a;simp only [Bool.and_eq_true, decide_eq_true_eq, betw] at a;refine ⟨(code_cores c).1, b.1, a.1.1.1, a.1.2.1, fun u hu => ?_⟩;have q := List.all_eq_true.1 b.2 u hu;unfold coreFit at q;simp only [Bool.and_eq_true, decide_eq_true_eq] at q;exact prog_len q.2.1
theorem fin_eq {x : FabricD} (h : fabI x = true) : (x.2.2.1.all idleC && (decide (x.2.2.2.2.1.length = 0) && decide (x.2.2.2.1.2.1 = (x.2.2.2.1.1.length : Int)))) = finI x := by
 obtain ⟨-, -, -, hd, -⟩ := fab_facts h;have e : decide (x.2.2.2.1.2.1 = (x.2.2.2.1.1.length : Int)) = !decide (x.2.2.2.1.2.1 < (x.2.2.2.1.1.length : Int)) := by
  by_cases q : x.2.2.2.1.2.1 < (x.2.2.2.1.1.length : Int)
  ·rw [decide_eq_true q, decide_eq_false (by omega)]; rfl
  ·rw [decide_eq_false q, decide_eq_true (by omega)]; rfl
 unfold finI doneB;rw [h, e];cases x.2.2.1.all idleC <;> cases decide (x.2.2.2.2.1.length = 0) <;> cases decide (x.2.2.2.1.2.1 < (x.2.2.2.1.1.length : Int)) <;> rfl
def wayOf (c : CacheD) (k : Int) : WayD := match atC c k with
 | some j => (rowFor c k).getD j emptyW
 | none => emptyW
def stateOf (u : CoreD) (k : Int) : Int := (wayOf u.1 k).2.1
def statesI (x : FabricD) (k : Int) : List Int := x.2.2.1.map fun u => stateOf u k
theorem fab_core {x : FabricD} (h : fabI x = true) {u : CoreD} (hu : u ∈ x.2.2.1) : OkC isL treeB u.1 := by
 unfold fabI at h;simp only [Bool.and_eq_true, decide_eq_true_eq] at h;obtain ⟨hc, -, a, -⟩ := h;unfold coresFit at a;simp only [Bool.and_eq_true, decide_eq_true_eq] at a;have q := List.all_eq_true.1 a.2 u hu;unfold coreFit at q;simp only [Bool.and_eq_true, decide_eq_true_eq] at q;exact core_ok q.1
theorem fab_lines {x : FabricD} (h : fabI x = true) : (1 ≤ x.1.2.2.2 ∧ x.1.2.2.2 ≤ 16) ∧ (x.2.1.2.length : Int) = x.1.2.2.2 := by
 unfold fabI at h;simp only [Bool.and_eq_true, decide_eq_true_eq] at h;obtain ⟨b, a, -⟩ := h;unfold houseFit at a;simp only [Bool.and_eq_true, decide_eq_true_eq] at a;exact ⟨(code_cores b).2, a.2.1⟩
theorem wayK_of {c : CacheD} {M q : Nat} (h : OkC isL treeB c) (hrow : ∀ b ∈ c.1, b.length = M) (hM : 0 < M) (hq : q < c.1.length * M) {k : Int} (hk : 0 ≤ k) (e : (wayK c M q).1 = k) : wayOf c k = wayK c M q := by
 obtain ⟨b, j, g⟩ := wayK_get hM hrow hq;obtain ⟨h1, h2, m, hm, o⟩ := h;obtain ⟨-, -, i⟩ := o _ _ j;have l : setNo c k = q / M := by
  rcases i.1 _ _ g with d | ⟨-, d⟩
  ·unfold clearB at d;simp only [decide_eq_true_eq] at d;have n := d.1;rw [e] at n;omega
  ·unfold setNo;rw [← e, d];exact Int.toNat_natCast _
 have a : rowFor c k = b := by
  unfold rowFor;rw [l, List.getD_eq_getElem?_getD, j];rfl
 have f : atC c k = some (q % M) := at_iff (by rw [a]; exact i.2) hk (by rw [a]; exact g) e;unfold wayOf;rw [f];simp only
 rw [a];exact getD_of g
theorem wayK_none {c : CacheD} {M : Nat} (h : OkC isL treeB c) (hrow : ∀ row ∈ c.1, row.length = M) {k : Int} (hk : 0 ≤ k) (hn : ∀ q, q < c.1.length * M → (wayK c M q).1 ≠ k) : wayOf c k = emptyW := by
 unfold wayOf;cases d : atC c k with
 | none => rfl
 | some i =>
  exfalso
  obtain ⟨-, u, g, m⟩ := at_some d;obtain ⟨hp, a, -, -, -, b⟩ := ok_row h k;have hl := hrow _ (List.mem_of_getElem? a);have f : i < M := by have := (List.getElem?_eq_some_iff.1 g).1; omega
  have j : (setNo c k * M + i) / M = setNo c k := by rw [Nat.mul_comm, Nat.mul_add_div (by omega), Nat.div_eq_of_lt f, Nat.add_zero]
  have l : (setNo c k * M + i) % M = i := by rw [Nat.mul_comm, Nat.mul_add_mod, Nat.mod_eq_of_lt f]
  refine hn (setNo c k * M + i) ?_ ?_
  ·have : (setNo c k + 1) * M ≤ c.1.length * M := Nat.mul_le_mul_right _ b;rw [Nat.add_one_mul] at this;omega
  ·unfold wayK;rw [j, l];show ((rowFor c k).getD i emptyW).1 = k
   rw [show (rowFor c k).getD i emptyW = u from getD_of g];exact m
def cacheAt (x : FabricD) (i : Nat) : CacheD := match x.2.2.1[i]? with
 | some u => u.1
 | none => ([], [])
theorem cacheAt_of {x : FabricD} {i : Nat} {u : CoreD} (h : x.2.2.1[i]? = some u) : cacheAt x i = u.1 := by unfold cacheAt; rw [h]
theorem pos_div {i p T : Nat} (h : p < T) : (i * T + p) / T = i ∧ (i * T + p) % T = p :=
 ⟨by rw [Nat.mul_comm, Nat.mul_add_div (by omega), Nat.div_eq_of_lt h, Nat.add_zero], by rw [Nat.mul_comm, Nat.mul_add_mod, Nat.mod_eq_of_lt h]⟩
open Go.Maps (Keyed)
def bookR (j : Nat) (e : EntryD) : List Trip := (holdE e).map fun c => ((j : Int), c, ownB e.1 c)
def bookA (x : FabricD) : Nat → List Trip
 | 0 => []
 | j + 1 => bookA x j ++ (match x.2.1.2[j]? with
  | some e => bookR j e
  | none => [])
theorem bookA_step {x : FabricD} {j : Nat} {e : EntryD} (h : x.2.1.2[j]? = some e) : bookA x (j + 1) = bookA x j ++ bookR j e := by rw [bookA, h]
def cacheA (x : FabricD) (T M : Nat) : Nat → List Trip
 | 0 => []
 | n + 1 => cacheA x T M n ++ (if clearB (wayK (cacheAt x (n / T)) M (n % T)) then [] else [((wayK (cacheAt x (n / T)) M (n % T)).1, ((n / T : Nat) : Int), decide (2 ≤ (wayK (cacheAt x (n / T)) M (n % T)).2.1))])
theorem cacheA_len (x : FabricD) (T M : Nat) : ∀ n, (cacheA x T M n).length ≤ n
 | 0 => Nat.le_refl _
 | n + 1 => by
  have := cacheA_len x T M n;rw [cacheA, List.length_append];split <;> simp <;> omega
theorem cacheA_yes {x : FabricD} {i p T M : Nat} {u : CoreD} (hu : x.2.2.1[i]? = some u) (hp : p < T) (hc : clearB (wayK u.1 M p) = false) : cacheA x T M (i * T + p + 1) = cacheA x T M (i * T + p) ++ [((wayK u.1 M p).1, (i : Int), decide (2 ≤ (wayK u.1 M p).2.1))] := by
 rw [cacheA, (pos_div hp).1, (pos_div hp).2, cacheAt_of hu, hc];rfl
theorem cacheA_no {x : FabricD} {i p T M : Nat} {u : CoreD} (hu : x.2.2.1[i]? = some u) (hp : p < T) (hc : clearB (wayK u.1 M p) = true) : cacheA x T M (i * T + p + 1) = cacheA x T M (i * T + p) := by
 rw [cacheA, (pos_div hp).1, (pos_div hp).2, cacheAt_of hu, hc];simp
theorem wf64 {a : Int} (h : In64 a) : (Lit.int .i64 a).wf = true := by
 obtain ⟨h1, h2⟩ := h;exact WalkArith.wf_i64 (by omega)
theorem holdE_len (e : EntryD) : (holdE e).length ≤ 8 := by
 have := (hold_small e).1;exact this
theorem bookA_len (x : FabricD) : ∀ n, (bookA x n).length ≤ 8 * n
 | 0 => Nat.le_refl _
 | n + 1 => by
  have := bookA_len x n;rw [bookA, List.length_append];cases x.2.1.2[n]? with
  | none => simp; omega
  | some e =>
   have h2 : (bookR n e).length ≤ 8 := by unfold bookR; rw [List.length_map]; exact holdE_len e
   simp only
   omega
theorem ent_data {w : World} {cs : List Value} {u : EntryD} (h : entR.rd w cs u) : ∀ b d, cs = [nI u.1, nI u.2.1, .bool u.2.2.1, nI u.2.2.2.1, nI u.2.2.2.2.1, nI u.2.2.2.2.2.1, nI u.2.2.2.2.2.2.1, sL b u.2.2.2.2.2.2.2.length d] → SlRd intR w b u.2.2.2.2.2.2.2 := by
 intro b d e;obtain ⟨a, c, rfl, -, -, -, -, -, -, -, -, q⟩ := ent_rd h;simp only [List.cons.injEq, Value.slice.injEq, and_true, true_and] at e;obtain ⟨rfl, -⟩ := e;exact q
def KeepJ (w : World) (b : Nat) (L : List Trip) (wr : World) : Prop := SetK wr b L.length L ∧ w.grownBy wr (some b)
theorem fab_ent {x : FabricD} (h : fabI x = true) {e : EntryD} (he : e ∈ x.2.1.2) : entB e = true := by
 unfold fabI at h;simp only [Bool.and_eq_true, decide_eq_true_eq] at h;obtain ⟨hc, a, -⟩ := h;unfold houseFit houseB at a;simp only [Bool.and_eq_true, decide_eq_true_eq] at a;exact List.all_eq_true.1 a.1.2.2 e he
set_option maxHeartbeats 4000000 in
set_option maxRecDepth 20000 in
theorem keepBook_any (x : FabricD) (a1 : Option Addr) (c1 : Nat) (b1 : Option Addr) (d1 : Nat) (a2 : Option Addr) (c2 : Nat) (a3 : Option Addr) (c3 : Nat) (b3 : Option Addr) (d3 : Nat) (a4 : Option Addr) (c4 : Nat) (a5 : Option Addr) (c5 : Nat) (W0 : World) (R : FabRd W0 x a1 c1 b1 d1 a2 c2 a3 c3 b3 d3 a4 c4 a5 c5) (hf : fabI x = true) (b : Nat) (w : World) (hb0 : W0.heap.size ≤ b) (hS : SetK w b 0 []) (hB : Bl W0 w) :
    Calls Tryz.prog 113 #[.agg #[nI x.1.1, nI x.1.2.1, nI x.1.2.2.1, nI x.1.2.2.2, sL a1 x.2.1.1.length c1, sL b1 x.2.1.2.length d1, sL a2 x.2.2.1.length c2, sL a3 x.2.2.2.1.1.length c3, nI x.2.2.2.1.2.1, .bool x.2.2.2.1.2.2.1, sL b3 x.2.2.2.1.2.2.2.length d3, sL a4 x.2.2.2.2.1.length c4, sL a5 x.2.2.2.2.2.length c5], .func (.func 175) #[.map (some b)] #[]] w fun e w' => (∃ v, e = .returned v) ∧ KeepJ w b (bookA x x.2.1.2.length) w' := by
 have RE : Hid (∀ W, w.grownBy W (some b) → SlRd entR W b1 x.2.1.2) := fun W s => (fab_next R (hB.grown s hB.size (fun k e => by cases e; exact hb0))).book;have oA : x.2.1.2.length ≤ 9223372036854775807 := R.bookl;have p : Hid (x.2.1.2.length ≤ 16) := by
  obtain ⟨⟨h1, h2⟩, h3⟩ := fab_lines hf;unfold Hid;omega
 have dA := hS.lt;clear R hB hf;go_enter Tryz.func113, Tryz.ntmps113;go_upto_region 1 with fail
 have F := heap_at w (.cells #[nI x.1.1, nI x.1.2.1, nI x.1.2.2.1, nI x.1.2.2.2, sL a1 x.2.1.1.length c1, sL b1 x.2.1.2.length d1, sL a2 x.2.2.1.length c2, sL a3 x.2.2.2.1.1.length c3, nI x.2.2.2.1.2.1, .bool x.2.2.2.1.2.2.1, sL b3 x.2.2.2.1.2.2.2.length d3, sL a4 x.2.2.2.2.1.length c4, sL a5 x.2.2.2.2.2.length c5] 49);have J0 : Hid (KeepJ w b (bookA x 0) (w.alloc (.cells #[nI x.1.1, nI x.1.2.1, nI x.1.2.2.1, nI x.1.2.2.2, sL a1 x.2.1.1.length c1, sL b1 x.2.1.2.length d1, sL a2 x.2.2.1.length c2, sL a3 x.2.2.2.1.1.length c3, nI x.2.2.2.1.2.1, .bool x.2.2.2.1.2.2.1, sL b3 x.2.2.2.1.2.2.2.length d3, sL a4 x.2.2.2.2.1.length c4, sL a5 x.2.2.2.2.2.length c5] 49))) := ⟨hS.below (box_below w (.cells #[nI x.1.1, nI x.1.2.1, nI x.1.2.2.1, nI x.1.2.2.2, sL a1 x.2.1.1.length c1, sL b1 x.2.1.2.length d1, sL a2 x.2.2.1.length c2, sL a3 x.2.2.2.1.1.length c3, nI x.2.2.2.1.2.1, .bool x.2.2.2.1.2.2.1, sL b3 x.2.2.2.1.2.2.2.length d3, sL a4 x.2.2.2.2.1.length c4, sL a5 x.2.2.2.2.2.length c5] 49)) dA, World.grownBy_alloc w (.cells #[nI x.1.1, nI x.1.2.1, nI x.1.2.2.1, nI x.1.2.2.2, sL a1 x.2.1.1.length c1, sL b1 x.2.1.2.length d1, sL a2 x.2.2.1.length c2, sL a3 x.2.2.2.1.1.length c3, nI x.2.2.2.1.2.1, .bool x.2.2.2.1.2.2.1, sL b3 x.2.2.2.1.2.2.2.length d3, sL a4 x.2.2.2.2.1.length c4, sL a5 x.2.2.2.2.2.length c5] 49) _⟩;generalize w.alloc (.cells #[nI x.1.1, nI x.1.2.1, nI x.1.2.2.1, nI x.1.2.2.2, sL a1 x.2.1.1.length c1, sL b1 x.2.1.2.length d1, sL a2 x.2.2.1.length c2, sL a3 x.2.2.2.1.1.length c3, nI x.2.2.2.1.2.1, .bool x.2.2.2.1.2.2.1, sL b3 x.2.2.2.1.2.2.2.length d3, sL a4 x.2.2.2.2.1.length c4, sL a5 x.2.2.2.2.2.length c5] 49) = u1w at F J0 ⊢;obtain ⟨Fc0, Fc1, Fc2, Fc3, Fc4, Fc5, Fc6, Fc7, Fc8, Fc9, Fc10, Fc11, Fc12⟩ := cells_fabric F;have Flt := (ltH F);clear F;go_wp2;clear Fc0 Fc1 Fc2 Fc3 Fc4 Fc5 Fc6 Fc7 Fc8 Fc9 Fc10 Fc11 Fc12 Flt;go_loopw [12] (fun i wr => ∃ j : Nat, j ≤ x.2.1.2.length ∧ i = nI j ∧ KeepJ w b (bookA x j) wr) (fun i _ => x.2.1.2.length - (intOf i).toNat)
 case atStart => exact ⟨0, Nat.zero_le _, rfl, J0.out⟩
 case round =>
  clear J0;obtain ⟨j, hj, rfl, J⟩ := hrel;by_cases kA : j < x.2.1.2.length
  ·have qA : (j : Int) < (x.2.1.2.length : Int) := by omega
   obtain ⟨u, hx⟩ : ∃ u, x.2.1.2[j]? = some u := ⟨_, List.getElem?_eq_getElem kA⟩;obtain ⟨bb, zA, cs, ra, l, f⟩ := slrd_at (RE.out _ J.2) hx;have G := ent_data l;obtain ⟨A, H, rfl⟩ := ent_shape l;have HD : Hid (∀ W, Bl wr W → SlRd intR W A u.2.2.2.2.2.2.2) := fun W hb => slrd_next (G _ _ rfl) hb;obtain ⟨x0, x1, x2, x3, x4, x5, x6, x7⟩ := cellsAt8 f rfl;subst ra;have U : Hid _ := bookA_step hx;have a : Hid _ := J;clear f l G hx J;go_upto_region 4 with fail
   clear x0 x1 x2 x3 x4 x5 x6 x7;have X := heap_at wr (.cells #[nI u.1, nI u.2.1, .bool u.2.2.1, nI u.2.2.2.1, nI u.2.2.2.2.1, nI u.2.2.2.2.2.1, nI u.2.2.2.2.2.2.1, sL A u.2.2.2.2.2.2.2.length H] 101);have V := box_below wr (.cells #[nI u.1, nI u.2.1, .bool u.2.2.1, nI u.2.2.2.1, nI u.2.2.2.2.1, nI u.2.2.2.2.2.1, nI u.2.2.2.2.2.2.1, sL A u.2.2.2.2.2.2.2.length H] 101);have N := a.out.1.lt;replace a : Hid (KeepJ w b (bookA x j) (wr.alloc (.cells #[nI u.1, nI u.2.1, .bool u.2.2.1, nI u.2.2.2.1, nI u.2.2.2.2.1, nI u.2.2.2.2.2.1, nI u.2.2.2.2.2.2.1, sL A u.2.2.2.2.2.2.2.length H] 101))) := ⟨a.out.1.below V N, a.out.2.andThen (World.grownBy_alloc wr (.cells #[nI u.1, nI u.2.1, .bool u.2.2.1, nI u.2.2.2.1, nI u.2.2.2.2.1, nI u.2.2.2.2.2.1, nI u.2.2.2.2.2.2.1, sL A u.2.2.2.2.2.2.2.length H] 101) none) (fun j e => by cases e)⟩;have r := HD.out _ V;have bA : Hid (wr.heap.size ≠ b) := fun e => by omega
   generalize wr.alloc (.cells #[nI u.1, nI u.2.1, .bool u.2.2.1, nI u.2.2.2.1, nI u.2.2.2.2.1, nI u.2.2.2.2.2.1, nI u.2.2.2.2.2.2.1, sL A u.2.2.2.2.2.2.2.length H] 101) = u2w at X a r ⊢;clear HD V;obtain ⟨y0, y1, y2, Y, y4, y5, y6, T⟩ := cells_8 X;go_wp2_with fail
   clear y0 y1 y2 Y y4 y5 y6 T;refine (implHolders_any _ _ _ _ _ _ _ _ _ _ u2w r).mono ?_;rintro e d ⟨v, rfl, g, cg, rfl, g1, g2, S, c⟩;replace S : OwnI u2w.heap.size d g cg (holdE u) := S;rw [show (if entB (u.1, u.2.1, u.2.2.1, u.2.2.2.1, u.2.2.2.2.1, u.2.2.2.2.2.1, u.2.2.2.2.2.2.1, u.2.2.2.2.2.2.2) = true then hoI u.1 u.2.1 else []) = holdE u from rfl];replace X := row_keep c X;have B := a.out.1.lt;replace a : Hid (KeepJ w b (bookA x j) d) := ⟨a.out.1.below c B, a.out.2.andThen (grown_of_below c none) (fun j e => by cases e)⟩;have Z : Hid (g ≠ b) := fun e => by omega
   have z : Hid _ := aI X S;clear X S c r g1 g2 B N;have IA := holdE_len u;have K : Hid ((bookR j u).length = (holdE u).length) := by unfold Hid bookR; rw [List.length_map]
   go_wp2;go_loopw [20] (fun i wr => ∃ m : Nat, m ≤ (holdE u).length ∧ i = nI m ∧ KeepJ w b (bookA x j ++ (bookR j u).take m) wr ∧ d.grownBy wr (some b)) (fun i _ => (holdE u).length - (intOf i).toNat)
   case atStart => exact ⟨0, Nat.zero_le _, rfl, by rw [List.take_zero, List.append_nil]; exact a.out, World.grownBy.refl _ _⟩
   case round =>
    clear a;obtain ⟨m, hm, rfl, J, s⟩ := hrel;by_cases n : m < (holdE u).length
    ·have pA : (m : Int) < ((holdE u).length : Int) := by omega
     have XX := (s.block _ (Array.getElem?_eq_some_iff.1 z.out.1).1 (fun e => bA.out (by cases e; rfl))).trans z.out.1;have OO := owni_at (owni_grown z.out.2 s Z.out) m n;have q : In64 ((holdE u).getD m 0) := by
      rw [List.getD_eq_getElem?_getD, List.getElem?_eq_getElem n];exact hold_in u _ (List.getElem_mem n)
     have I : Hid ((bookR j u).take (m + 1) = (bookR j u).take m ++ [((j : Int), (holdE u).getD m 0, ownB u.1 ((holdE u).getD m 0))]) := by
      unfold Hid bookR;rw [List.take_add_one, List.getElem?_map, List.getElem?_eq_getElem n, List.getD_eq_getElem?_getD, List.getElem?_eq_getElem n];rfl
     obtain ⟨y0, y1, y2, Y, y4, y5, y6, T⟩ := cells_8 XX;have a : Hid _ := aI J s;have HN : Hid ((bookA x j ++ (bookR j u).take m).length < maxLen) := by
      have q1 := bookA_len x j;have q2 : ((bookR j u).take m).length ≤ 8 := by rw [List.length_take]; have := K.out; omega
      have q3 := p.out;unfold Hid;rw [List.length_append];unfold maxLen;omega
     have C : Hid (KeyT ((j : Int), (holdE u).getD m 0, ownB u.1 ((holdE u).getD m 0))) := ⟨wf64 ⟨by omega, by have := p.out; omega⟩, wf64 q⟩;clear J s XX q;generalize (holdE u).getD m 0 = cc at OO I C ⊢;go_wp2_with fail
     refine (page_any _ _ _ _ _ _ _ _ _).mono ?_;rintro e M ⟨rfl, c⟩;have O := a.out.1.1.lt;replace a : Hid (KeepJ w b (bookA x j ++ (bookR j u).take m) M ∧ d.grownBy M (some b)) := ⟨⟨a.out.1.1.below c O, a.out.1.2.andThen (grown_of_below c none) (fun j e => by cases e)⟩, a.out.2.andThen (grown_of_below c none) (fun j e => by cases e)⟩;clear y0 y1 y2 Y y4 y5 y6 T OO c O;go_wp2_with fail
     refine (owns_any _ _ _ _).mono ?_;rintro e y ⟨rfl, c⟩;have L := a.out.1.1.lt;replace a : Hid (KeepJ w b (bookA x j ++ (bookR j u).take m) y ∧ d.grownBy y (some b)) := ⟨⟨a.out.1.1.below c L, a.out.1.2.andThen (grown_of_below c none) (fun j e => by cases e)⟩, a.out.2.andThen (grown_of_below c none) (fun j e => by cases e)⟩;clear c L;go_wp2_with fail
     refine (add_any b _ _ ((j : Int), cc, ownB u.1 cc) y a.out.1.1 HN.out C.out).mono ?_;rintro e E ⟨⟨v, rfl⟩, s6, g6⟩;have o : Hid (KeepJ w b (bookA x j ++ (bookR j u).take (m + 1)) E ∧ d.grownBy E (some b)) := by
      refine ⟨⟨?_, a.out.1.2.andThen g6 (fun j e => by cases e; exact .inr rfl)⟩, a.out.2.andThen g6 (fun j e => by cases e; exact .inr rfl)⟩;rw [I.out, ← List.append_assoc];have e1 : ((bookA x j ++ (bookR j u).take m) ++ [((j : Int), cc, ownB u.1 cc)]).length = (bookA x j ++ (bookR j u).take m).length + 1 := by rw [List.length_append]; rfl
      rw [e1];exact s6
     clear s6 g6 a;go_wp2;go_roundw
     case rel => exact ⟨m + 1, by omega, by go_num, o.out⟩
     case measure => simp [intOf]; omega
    ·have lA : ¬ ((m : Int) < ((holdE u).length : Int)) := by omega
     have o : Hid (KeepJ w b (bookA x (j + 1)) wr) := by
      rw [U.out];have e2 : (bookR j u).take m = bookR j u := List.take_of_length_le (by have := K.out; omega);rw [e2] at J;exact J
     clear J s;go_wp2;go_roundw
     case rel => exact ⟨j + 1, by omega, by go_num, o.out⟩
     case measure => simp [intOf]; omega
  ·have D : j = x.2.1.2.length := by omega
   have lA : ¬ ((j : Int) < (x.2.1.2.length : Int)) := by omega
   have o : Hid (KeepJ w b (bookA x x.2.1.2.length) wr) := by rw [D] at J; exact J
   clear J D;go_wp2;exact bodyPost_end (v := .tuple #[]) (by simp [results, Tryz.results113, go_sem]) rfl ⟨⟨_, rfl⟩, o.out⟩
end Go.Proofs.YtdamokokcdcedaaGreatDoor
