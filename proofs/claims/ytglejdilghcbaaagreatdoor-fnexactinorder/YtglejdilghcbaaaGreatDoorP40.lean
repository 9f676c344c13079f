import Derived.Test.YtglejdilghcbaaaGreatDoorP00Box
import Derived.Test.YtglejdilghcbaaaGreatDoorP38
import Derived.Test.YtglejdilghcbaaaGreatDoorP39
namespace Go.Proofs.YtglejdilghcbaaaGreatDoor
open Go.ChangeShapes Go.WideShapes Go.ChangeAt Go.RowKit
set_option linter.unusedVariables false
def headF (x : FabricD) : Bool := decide (codeI x.1.1 x.1.2.1 x.1.2.2.1 x.1.2.2.2 = 0) && (houseB x.2.1 && (decide ((x.2.1.2.length : Int) = x.1.2.2.2) && (decide ((x.2.2.1.length : Int) = x.1.1) && (dmaS x.2.2.2.1 && (decide (descI x.1.1 x.1.2.1 x.1.2.2.1 x.1.2.2.2 x.2.2.2.1.1 = 0) && (netB x.2.2.2.2.1 && decide (x.2.2.2.2.2.length ≤ 200)))))))
noncomputable def coreS (c s y l : Int) (u : CoreD) : Bool := coreB u && (decide ((u.1.1.length : Int) = s) && (decide ((waysN u.1 : Int) = y) && decide (progI c s y l u.2.1 = 0)))
def entS (c : Int) (e : EntryD) : Bool := decide (e.1 < c) && (decide (e.2.1 < 2 ^ c.toNat) && !(decide (e.2.2.2.2.1 < 4) && decide (c ≤ e.2.2.2.2.1)))
def msgS (c l : Int) (m : MsgD) : Bool := decide (m.2.2.2.2.1 < l) && (!(decide (m.2.1 < 4) && decide (c ≤ m.2.1)) && !(decide (m.2.2.1 < 4) && decide (c ≤ m.2.2.1)))
noncomputable def fabS (x : FabricD) : Bool := headF x && (x.2.2.1.all (coreS x.1.1 x.1.2.1 x.1.2.2.1 x.1.2.2.2) && (x.2.2.1.all (linesIn x.1.2.2.2) && (x.2.1.2.all (entS x.1.1) && (x.2.2.2.2.1.all (msgS x.1.1 x.1.2.2.2) && x.2.2.2.2.2.all evB))))
theorem all_congr {α : Type} {p q : α → Bool} {xs : List α} (h : ∀ a ∈ xs, p a = q a) : xs.all p = xs.all q := by
 induction xs with
 | nil => rfl
 | cons a xs ih => rw [List.all_cons, List.all_cons, h a (List.mem_cons_self ..), ih fun b hb => h b (List.mem_cons_of_mem _ hb)]
theorem all_both {α : Type} {p q : α → Bool} {xs : List α} : (xs.all p && xs.all q) = xs.all fun a => p a && q a := by
 induction xs with
 | nil => rfl
 | cons a xs ih =>
  rw [List.all_cons, List.all_cons, List.all_cons, ← ih];cases p a <;> cases q a <;> cases xs.all p <;> cases xs.all q <;> rfl
set_option linter.unusedSimpArgs false
theorem shar_fin : ∀ c : Fin 5, ∀ s : Fin 16, (mems (s.val : Int) 8).all (fun k => betw k 0 ((c.val : Int) - 1)) = decide ((s.val : Int) < 2 ^ c.val) := by decide +kernel
theorem bool_iff {a b : Bool} (h : a = true ↔ b = true) : a = b := by
 cases a <;> cases b <;> simp_all
theorem ent_eq {c : Int} {e : EntryD} (h1 : 1 ≤ c) (h4 : c ≤ 4) (h : entB e = true) : entS c e = entIn c e := by
 have m : whoB e.1 e.2.1 = true := by unfold entB at h; rw [Bool.and_eq_true] at h; exact h.1
 have g : (0 ≤ e.2.2.2.2.1 ∧ e.2.2.2.2.1 ≤ 3) ∨ e.2.2.2.2.1 = 5 := by
  unfold entB at h;rw [Bool.and_eq_true] at h;have q := h.2;cases l : e.2.2.1
  ·rw [l] at q;simp only [Bool.false_eq_true, if_false, restB, Bool.and_eq_true, decide_eq_true_eq] at q;omega
  ·rw [l] at q;simp only [if_true, busyB, fromB, betw, Bool.and_eq_true, decide_eq_true_eq] at q;have k := q.2.2.1;split at k
   ·simp only [decide_eq_true_eq] at k;omega
   ·simp only [Bool.and_eq_true, decide_eq_true_eq] at k;omega
 unfold entIn holdE;rw [if_pos h];have p : (hoI e.1 e.2.1).all (coreIn c) = (decide (e.1 < c) && decide (e.2.1 < 2 ^ c.toNat)) := by
  simp only [whoB, betw, Bool.and_eq_true, decide_eq_true_eq, Bool.not_eq_true', Bool.and_eq_false_iff, decide_eq_false_iff_not, Bool.not_eq_false'] at m;obtain ⟨w1, w2, f⟩ := m;unfold hoI;by_cases j : 0 ≤ e.1
  ·have i : e.2.1 = 0 := by
     rcases f with f | f
     ·exact absurd j f
     ·exact f
   rw [if_pos j, i];have o : (0 : Int) < 2 ^ c.toNat := Int.pow_pos (by decide);rw [decide_eq_true o, Bool.and_true];simp only [List.all_cons, List.all_nil, Bool.and_true, coreIn, betw];refine bool_iff ?_;simp only [decide_eq_true_eq];omega
  ·rw [if_neg j, decide_eq_true (show e.1 < c by omega), Bool.true_and];obtain ⟨s, i⟩ : ∃ s : Fin 16, (s.val : Int) = e.2.1 := ⟨⟨e.2.1.toNat, by omega⟩, by simp; omega⟩;obtain ⟨n, r⟩ : ∃ n : Fin 5, (n.val : Int) = c := ⟨⟨c.toNat, by omega⟩, by simp; omega⟩;have q := shar_fin n s;rw [i, r] at q;rw [show c.toNat = n.val from by omega];exact q
 rw [p];unfold entS agentIn coreIn;refine bool_iff ?_;simp only [Bool.and_eq_true, Bool.or_eq_true, decide_eq_true_eq, Bool.not_eq_true', Bool.and_eq_false_iff, decide_eq_false_iff_not, betw];constructor
 ·rintro ⟨a, b, d⟩;refine ⟨?_, a, b⟩;rcases g with g | g
  ·exact .inr (.inr (by omega))
  ·exact .inr (.inl g)
 ·rintro ⟨a, b, d⟩;exact ⟨b, d, by omega⟩
theorem msg_eq {c l : Int} {m : MsgD} (h1 : 1 ≤ c) (h4 : c ≤ 4) (h : msgB m = true) : msgS c l m = msgIn c l m := by
 have hm : (0 ≤ m.2.1 ∧ m.2.1 ≤ 5) ∧ (0 ≤ m.2.2.1 ∧ m.2.2.1 ≤ 5) ∧ (0 ≤ m.2.2.2.2.1 ∧ m.2.2.2.2.1 ≤ 15) := by
  simp only [msgB, endsB, betw, Bool.and_eq_true, decide_eq_true_eq] at h;omega
 unfold msgS msgIn agentIn coreIn lineIn;refine bool_iff ?_;simp only [Bool.and_eq_true, Bool.or_eq_true, decide_eq_true_eq, Bool.not_eq_true', Bool.and_eq_false_iff, decide_eq_false_iff_not, betw];omega
theorem way_in {l : Int} {u : WayD} (h1 : 1 ≤ l) (h : clearB u = true ∨ (0 ≤ u.1 ∧ u.1 ≤ 15)) : decide (u.1 < l) = wayIn l u := by
 have hu : -1 ≤ u.1 := by
  rcases h with h | h
  ·simp only [clearB, decide_eq_true_eq] at h;omega
  ·omega
 unfold wayIn lineIn;refine bool_iff ?_;simp only [Bool.or_eq_true, decide_eq_true_eq, betw];omega
theorem core_eq {c s y l : Int} {u : CoreD} (h1 : 1 ≤ l) : (coreS c s y l u && linesIn l u) = coreFit c s y l u := by
 unfold coreS coreFit;cases a : coreB u
 ·simp
 ·have b := core_ok a;have o : rowsIn l u = waysIn l u.1 := by
   unfold rowsIn waysIn;refine all_congr fun row hrow => all_congr fun v hv => ?_;obtain ⟨i, k⟩ := List.getElem?_of_mem hrow;obtain ⟨j, n⟩ := List.getElem?_of_mem hv;obtain ⟨-, -, m, -, f⟩ := b;refine way_in h1 ?_;rcases (f i row k).2.2.1 j v n with q | ⟨q, -⟩
   ·exact .inl q
   ·simp only [fullB, decide_eq_true_eq] at q;exact .inr q.1
  have g : decide (u.2.2.2.2.1.1 < l) = wayIn l u.2.2.2.2.1 := by
   refine way_in h1 ?_;have q : restC u = true := by
    unfold coreB at a;simp only [Bool.and_eq_true] at a;exact a.2.2.2.2.2.2.2
   unfold restC at q;split at q
   ·simp only [Bool.and_eq_true, Bool.or_eq_true, goneB, fullB, betw, decide_eq_true_eq] at q;rcases q.1 with d | d
    ·exact .inr (by omega)
    ·exact .inr d.1
   ·exact .inl q
  unfold linesIn cacheIn;rw [o, g];cases decide ((u.1.1.length : Int) = s) <;> cases decide ((waysN u.1 : Int) = y) <;> cases decide (progI c s y l u.2.1 = 0) <;> cases waysIn l u.1 <;> cases wayIn l u.2.2.2.2.1 <;> rfl
theorem dma_eq {c s y l : Int} {x : DmaD} (hc : codeI c s y l = 0) : (dmaS x && decide (descI c s y l x.1 = 0)) = (dmaB x && decide (descI c s y l x.1 = 0)) := by
 unfold dmaS;by_cases b : descI c s y l x.1 = 0
 ·have hl := (code_cores hc).2;have q : x.1.all line15 = true := by
   unfold descI at b;rw [if_pos hc] at b;split at b
   ·split at b
    ·split at b
     ·rename_i a
      refine List.all_eq_true.2 fun u hu => ?_;have := List.all_eq_true.1 a u hu;simp only [dlnOk, betw, decide_eq_true_eq] at this;simp only [line15, betw, decide_eq_true_eq];omega
     ·cases b
    ·cases b
   ·cases b
  rw [q, Bool.and_true]
 ·rw [decide_eq_false b, Bool.and_false, Bool.and_false]
noncomputable def fabI (x : FabricD) : Bool := decide (codeI x.1.1 x.1.2.1 x.1.2.2.1 x.1.2.2.2 = 0) && (houseFit x && (coresFit x && (dmaFit x && (netFit x && (decide (x.2.2.2.2.2.length ≤ 200) && x.2.2.2.2.2.all evB)))))
theorem fab_eq (x : FabricD) : fabS x = fabI x := by
 unfold fabS fabI headF;by_cases b : codeI x.1.1 x.1.2.1 x.1.2.2.1 x.1.2.2.2 = 0
 ·obtain ⟨⟨c, d⟩, i, g⟩ := code_cores b;rw [decide_eq_true b];have e1 : (houseB x.2.1 && x.2.1.2.all (entS x.1.1)) = (houseB x.2.1 && x.2.1.2.all (entIn x.1.1)) := by
   cases a : houseB x.2.1
   ·rfl
   ·have q : ∀ e ∈ x.2.1.2, entB e = true := by
      unfold houseB at a;simp only [Bool.and_eq_true] at a;exact List.all_eq_true.1 a.2.2
    rw [all_congr fun e he => ent_eq c d (q e he)]
  have e2 : (netB x.2.2.2.2.1 && x.2.2.2.2.1.all (msgS x.1.1 x.1.2.2.2)) = (netB x.2.2.2.2.1 && x.2.2.2.2.1.all (msgIn x.1.1 x.1.2.2.2)) := by
   cases a : netB x.2.2.2.2.1
   ·rfl
   ·have q : ∀ m ∈ x.2.2.2.2.1, msgB m = true := by
      unfold netB at a;rw [Bool.and_eq_true] at a;exact List.all_eq_true.1 a.2
    rw [all_congr fun m hm => msg_eq c d (q m hm)]
  have f : (x.2.2.1.all (coreS x.1.1 x.1.2.1 x.1.2.2.1 x.1.2.2.2) && x.2.2.1.all (linesIn x.1.2.2.2)) = x.2.2.1.all (coreFit x.1.1 x.1.2.1 x.1.2.2.1 x.1.2.2.2) := by
   rw [all_both];exact all_congr fun u _ => core_eq i
  have e4 := dma_eq (x := x.2.2.2.1) b;unfold houseFit coresFit dmaFit netFit;generalize houseB x.2.1 = h0 at *;generalize x.2.1.2.all (entS x.1.1) = h1 at *;generalize x.2.1.2.all (entIn x.1.1) = h2 at *;generalize netB x.2.2.2.2.1 = n0 at *;generalize x.2.2.2.2.1.all (msgS x.1.1 x.1.2.2.2) = n1 at *;generalize x.2.2.2.2.1.all (msgIn x.1.1 x.1.2.2.2) = n2 at *;generalize x.2.2.1.all (coreS x.1.1 x.1.2.1 x.1.2.2.1 x.1.2.2.2) = k1 at *;generalize x.2.2.1.all (linesIn x.1.2.2.2) = k2 at *;generalize x.2.2.1.all (coreFit x.1.1 x.1.2.1 x.1.2.2.1 x.1.2.2.2) = k3 at *;generalize dmaS x.2.2.2.1 = d1 at *;generalize dmaB x.2.2.2.1 = d2 at *;generalize decide (descI x.1.1 x.1.2.1 x.1.2.2.1 x.1.2.2.2 x.2.2.2.1.1 = 0) = d3 at *;generalize decide ((x.2.1.2.length : Int) = x.1.2.2.2) = z1;generalize decide ((x.2.2.1.length : Int) = x.1.1) = z2;generalize decide (x.2.2.2.2.2.length ≤ 200) = z3;generalize x.2.2.2.2.2.all evB = z4;subst f;cases h0 <;> cases n0 <;> cases d3 <;> cases z1 <;> cases z2 <;> cases z3 <;> cases z4 <;> simp_all
  cases h2 <;> cases n2 <;> cases k1 <;> cases k2 <;> cases d2 <;> rfl
 ·rw [decide_eq_false b];simp
theorem prog_len {c s y l : Int} {p : List OpD} (h : progI c s y l p = 0) : p.length ≤ 30 := by
 unfold progI at h;split at h
 ·split at h
  ·assumption
  ·cases h
 ·cases h
theorem fab_facts {x : FabricD} (h : fabI x = true) : (1 ≤ x.1.1 ∧ x.1.1 ≤ 4) ∧ (x.2.2.1.length : Int) = x.1.1 ∧ x.2.2.2.1.1.length ≤ 30 ∧ (0 ≤ x.2.2.2.1.2.1 ∧ x.2.2.2.1.2.1 ≤ (x.2.2.2.1.1.length : Int)) ∧ ∀ u ∈ x.2.2.1, u.2.1.length ≤ 30 := by
 unfold fabI at h;simp only [Bool.and_eq_true, decide_eq_true_eq] at h;obtain ⟨c, -, a, b, -, -, -⟩ := h;unfold coresFit at a;simp only [Bool.and_eq_true, decide_eq_true_eq] at a;unfold dmaFit dmaB descsB placeB1 at b;simp only [Bool.and_eq_true, decide_eq_true_eq, betw] at b;refine ⟨(code_cores c).1, a.1, b.1.1.1, b.1.2.1, fun u hu => ?_⟩;have q := List.all_eq_true.1 a.2 u hu;unfold coreFit at q;simp only [Bool.and_eq_true, decide_eq_true_eq] at q;exact prog_len q.2.1
def pairB {α β : Type} (p : α → β → Bool) (xs : List α) (ys : List β) : Bool := decide (xs.length = ys.length) && (xs.zip ys).all fun z => p z.1 z.2
theorem pair_len {α β : Type} {p : α → β → Bool} {xs : List α} {ys : List β} (h : ¬ xs.length = ys.length) : pairB p xs ys = false := by
 unfold pairB;rw [decide_eq_false h, Bool.false_and]
theorem pair_iff {α β : Type} {p : α → β → Bool} {xs : List α} {ys : List β} : pairB p xs ys = true ↔ xs.length = ys.length ∧ ∀ (k : Nat) u v, xs[k]? = some u → ys[k]? = some v → p u v = true := by
 unfold pairB;rw [Bool.and_eq_true, decide_eq_true_eq, List.all_eq_true];refine and_congr_right fun hl => ⟨fun h k u v hu hv => ?_, fun h z hm => ?_⟩
 ·exact h (u, v) (List.mem_of_getElem? (i := k) (by rw [List.getElem?_zip_eq_some]; exact ⟨hu, hv⟩))
 ·obtain ⟨k, a⟩ := List.getElem?_of_mem hm;rw [List.getElem?_zip_eq_some] at a;exact h k z.1 z.2 a.1 a.2
theorem pair_no {α β : Type} {p : α → β → Bool} {xs : List α} {ys : List β} {k : Nat} {u : α} {v : β} (hu : xs[k]? = some u) (hv : ys[k]? = some v) (h : p u v = false) : pairB p xs ys = false := by
 cases q : pairB p xs ys
 ·rfl
 ·rw [pair_iff.1 q |>.2 k u v hu hv] at h;cases h
theorem pair_yes {α β : Type} {p : α → β → Bool} {xs : List α} {ys : List β} (hl : xs.length = ys.length) (h : ∀ (k : Nat) u v, xs[k]? = some u → ys[k]? = some v → p u v = true) : pairB p xs ys = true := pair_iff.2 ⟨hl, h⟩
def isOfB (e : EventD) (o : OpD) : Bool := decide (e.2.1 = o)
def tellsB (e : EventD) (t : Int) : Bool := decide (e.2.2.2.2.2 = t)
def carB (e : EventD) (d : DescD) : Bool := decide (e.2.2.1 = d.2.1) && (decide (e.2.2.2.1 = d.2.2.1) && (!d.1 || decide (e.2.2.2.2.1 = d.2.2.2)))
def foundB (e : EventD) (ws : List Int) : Bool := !decide (e.2.2.2.1 = 0) || decide (e.2.2.2.2.1 = ws)
def coreDone (u : CoreD) (es : List EventD) : Bool := pairB isOfB es (u.2.1.take u.2.2.1.toNat) && pairB tellsB es u.2.2.2.2.2
def dmaDone (x : DmaD) (es : List EventD) : Bool := pairB carB es (x.1.take x.2.1.toNat) && pairB foundB es x.2.2.2
def lastB (x : DmaD) (es : List EventD) : Bool := match es[x.2.1.toNat]?, x.1[x.2.1.toNat]? with
 | some e, some d => carB e d
 | _, _ => false
def dmaW (x : DmaD) (es : List EventD) : Bool := if x.2.2.1 = true ∧ (es.length : Int) = x.2.1 + 1 then lastB x es && dmaDone x (es.take x.2.1.toNat) else dmaDone x es
def coreAt (x : FabricD) (i : Nat) : Bool := match x.2.2.1[i]? with
 | some u => coreDone u (byA (i : Int) x.2.2.2.2.2)
 | none => true
noncomputable def inI (x : FabricD) : Bool := fabI x && ((List.range x.2.2.1.length).all (coreAt x) && dmaW x.2.2.2.1 (byA 5 x.2.2.2.2.2))
def stepC (u : CoreD) (k : Nat) (e : EventD) : Prop := (∀ o, u.2.1[k]? = some o → e.2.1 = o) ∧ ∀ t, u.2.2.2.2.2[k]? = some t → e.2.2.2.2.2 = t
theorem core_iffE {u : CoreD} {es : List EventD} (h1 : 0 ≤ u.2.2.1) (h2 : u.2.2.1 ≤ (u.2.1.length : Int)) (h3 : (u.2.2.2.2.2.length : Int) = u.2.2.1) : coreDone u es = true ↔ (es.length : Int) = u.2.2.1 ∧ ∀ (k : Nat) e, es[k]? = some e → stepC u k e := by
 unfold coreDone;rw [Bool.and_eq_true, pair_iff, pair_iff];have d : (u.2.1.take u.2.2.1.toNat).length = u.2.2.1.toNat := by rw [List.length_take]; omega
 rw [d];constructor
 ·rintro ⟨⟨f, b⟩, -, c⟩;refine ⟨by omega, fun k e he => ⟨fun o ho => ?_, fun t a => ?_⟩⟩
  ·have a : k < u.2.2.1.toNat := by have := (List.getElem?_eq_some_iff.1 he).1; omega
   have := b k e o he (by rw [List.getElem?_take_of_lt a]; exact ho);simpa [isOfB] using this
  ·simpa [tellsB] using c k e t he a
 ·rintro ⟨f, h⟩;refine ⟨⟨by omega, fun k e o he ho => ?_⟩, by omega, fun k e t he a => ?_⟩
  ·have a : k < u.2.2.1.toNat := by have := (List.getElem?_eq_some_iff.1 he).1; omega
   rw [List.getElem?_take_of_lt a] at ho;simpa [isOfB] using (h k e he).1 o ho
  ·simpa [tellsB] using (h k e he).2 t a
def stepD (x : DmaD) (k : Nat) (e : EventD) (d : DescD) : Prop := e.2.2.1 = d.2.1 ∧ e.2.2.2.1 = d.2.2.1 ∧ (d.1 = true → e.2.2.2.2.1 = d.2.2.2) ∧ (d.1 = false → ∀ ws, x.2.2.2[k]? = some ws → e.2.2.2.2.1 = ws)
theorem car_iff {e : EventD} {d : DescD} : carB e d = true ↔ e.2.2.1 = d.2.1 ∧ e.2.2.2.1 = d.2.2.1 ∧ (d.1 = true → e.2.2.2.2.1 = d.2.2.2) := by
 unfold carB;cases d.1 <;> simp
theorem desc_mask {d : DescD} (h : descB d = true) : (d.1 = true → ¬ d.2.2.1 = 0) ∧ (d.1 = false → d.2.2.1 = 0) := by
 unfold descB betw at h;cases q : d.1
 ·rw [q] at h;simp at h
  exact ⟨fun e => by (cases e), fun _ => h.1⟩
 ·rw [q] at h;simp at h
  exact ⟨fun _ => by omega, fun e => by cases e⟩
theorem done_iff {x : DmaD} {es : List EventD} (hd : ∀ d ∈ x.1, descB d = true) (h1 : 0 ≤ x.2.1) (h2 : x.2.1 ≤ (x.1.length : Int)) (h3 : (x.2.2.2.length : Int) = x.2.1) : dmaDone x es = true ↔ (es.length : Int) = x.2.1 ∧ ∀ (k : Nat) e d, es[k]? = some e → x.1[k]? = some d → stepD x k e d := by
 unfold dmaDone;rw [Bool.and_eq_true, pair_iff, pair_iff];have n : (x.1.take x.2.1.toNat).length = x.2.1.toNat := by rw [List.length_take]; omega
 rw [n];constructor
 ·rintro ⟨⟨o, j⟩, -, m⟩;refine ⟨by omega, fun k e d he a => ?_⟩;have c : k < x.2.1.toNat := by have := (List.getElem?_eq_some_iff.1 he).1; omega
  obtain ⟨f, b, g⟩ := car_iff.1 (j k e d he (by rw [List.getElem?_take_of_lt c]; exact a));refine ⟨f, b, g, fun hw ws hs => ?_⟩;have := m k e ws he hs;have i := (desc_mask (hd d (List.mem_of_getElem? a))).2 hw;unfold foundB at this;rw [decide_eq_true (by rw [b]; exact i)] at this;simpa using this
 ·rintro ⟨o, h⟩;refine ⟨⟨by omega, fun k e d he a => ?_⟩, by omega, fun k e ws he hs => ?_⟩
  ·have c : k < x.2.1.toNat := by have := (List.getElem?_eq_some_iff.1 he).1; omega
   rw [List.getElem?_take_of_lt c] at a;obtain ⟨f, b, g, -⟩ := h k e d he a;exact car_iff.2 ⟨f, b, g⟩
  ·have c : k < x.1.length := by have := (List.getElem?_eq_some_iff.1 he).1; omega
   obtain ⟨d, a⟩ : ∃ d, x.1[k]? = some d := ⟨_, List.getElem?_eq_getElem c⟩;obtain ⟨f, b, g, l⟩ := h k e d he a;unfold foundB;cases q : d.1
   ·rw [decide_eq_true (l q ws hs), Bool.or_true]
   ·rw [decide_eq_false (by rw [b]; exact (desc_mask (hd d (List.mem_of_getElem? a))).1 q)]; rfl
theorem dmaW_iff {x : DmaD} {es : List EventD} (hd : ∀ d ∈ x.1, descB d = true) (h1 : 0 ≤ x.2.1) (h2 : x.2.1 ≤ (x.1.length : Int)) (h3 : (x.2.2.2.length : Int) = x.2.1) (h4 : x.2.2.1 = true → x.2.1 < (x.1.length : Int)) :
    dmaW x es = true ↔ (x.2.1 ≤ (es.length : Int) ∧ (es.length : Int) ≤ x.2.1 + 1 ∧ (x.2.1 < (es.length : Int) → x.2.2.1 = true)) ∧ ∀ (k : Nat) e d, es[k]? = some e → x.1[k]? = some d → stepD x k e d := by
 unfold dmaW;split
 ·rename_i j
  obtain ⟨j, s⟩ := j;rw [Bool.and_eq_true, done_iff hd h1 h2 h3];have v : x.2.1.toNat < es.length := by omega
  have q : x.2.1.toNat < x.1.length := by have := h4 j; omega
  obtain ⟨e, g⟩ : ∃ e, es[x.2.1.toNat]? = some e := ⟨_, List.getElem?_eq_getElem v⟩;obtain ⟨d, i⟩ : ∃ d, x.1[x.2.1.toNat]? = some d := ⟨_, List.getElem?_eq_getElem q⟩;have f : lastB x es = carB e d := by unfold lastB; rw [g, i]
  rw [f, car_iff];constructor
  ·rintro ⟨⟨l, p, m⟩, -, h⟩;refine ⟨⟨by omega, by omega, fun _ => j⟩, fun k e' d' he' hd' => ?_⟩;by_cases o : k < x.2.1.toNat
   ·exact h k e' d' (by rw [List.getElem?_take_of_lt o]; exact he') hd'
   ·have n : k = x.2.1.toNat := by have := (List.getElem?_eq_some_iff.1 he').1; omega
    subst n;rw [g] at he';rw [i] at hd';cases he'
    cases hd'
    exact ⟨l, p, m, fun _ ws hs => by have := (List.getElem?_eq_some_iff.1 hs).1; omega⟩
  ·rintro ⟨-, h⟩;obtain ⟨l, p, m, -⟩ := h _ e d g i;refine ⟨⟨l, p, m⟩, by rw [List.length_take]; omega, fun k e' d' he' hd' => ?_⟩;have o : k < x.2.1.toNat := by have := (List.getElem?_eq_some_iff.1 he').1; rw [List.length_take] at this; omega
   rw [List.getElem?_take_of_lt o] at he';exact h k e' d' he' hd'
 ·rename_i j
  rw [done_iff hd h1 h2 h3];constructor
  ·rintro ⟨s, h⟩;exact ⟨⟨by omega, by omega, fun _ => by omega⟩, h⟩
  ·rintro ⟨⟨a, b, c⟩, h⟩;refine ⟨?_, h⟩;by_cases r : (es.length : Int) = x.2.1 + 1
   ·exact absurd ⟨c (by omega), r⟩ j
   ·omega
theorem fab_place {x : FabricD} (h : fabI x = true) {u : CoreD} (hu : u ∈ x.2.2.1) : 0 ≤ u.2.2.1 ∧ u.2.2.1 ≤ (u.2.1.length : Int) ∧ (u.2.2.2.2.2.length : Int) = u.2.2.1 := by
 unfold fabI at h;simp only [Bool.and_eq_true, decide_eq_true_eq] at h;obtain ⟨-, -, a, -⟩ := h;unfold coresFit at a;simp only [Bool.and_eq_true] at a;have q := List.all_eq_true.1 a.2 u hu;unfold coreFit coreB betw at q;simp only [Bool.and_eq_true, decide_eq_true_eq] at q;exact ⟨q.1.2.2.1.1, q.1.2.2.1.2, q.1.2.2.2.1⟩
theorem fab_dma18 {x : FabricD} (h : fabI x = true) : (∀ d ∈ x.2.2.2.1.1, descB d = true) ∧ 0 ≤ x.2.2.2.1.2.1 ∧ x.2.2.2.1.2.1 ≤ (x.2.2.2.1.1.length : Int) ∧ (x.2.2.2.1.2.2.2.length : Int) = x.2.2.2.1.2.1 ∧ (x.2.2.2.1.2.2.1 = true → x.2.2.2.1.2.1 < (x.2.2.2.1.1.length : Int)) := by
 obtain ⟨-, -, -, c, -⟩ := fab_facts h;unfold fabI at h;simp only [Bool.and_eq_true] at h;obtain ⟨-, -, -, b, -⟩ := h;unfold dmaFit dmaB descsB waitB1 toldL at b;simp only [Bool.and_eq_true, decide_eq_true_eq, Bool.or_eq_true, Bool.not_eq_true', List.all_eq_true] at b;obtain ⟨⟨⟨-, f⟩, -, a, g, -⟩, -⟩ := b;rw [List.length_take] at g;refine ⟨f, c.1, c.2, by omega, fun q => ?_⟩;rcases a with a | a
 ·rw [q] at a;cases a
 ·exact a
theorem in_core_no {x : FabricD} {i : Nat} {u : CoreD} (hu : x.2.2.1[i]? = some u) (h : coreDone u (byA (i : Int) x.2.2.2.2.2) = false) : inI x = false := by
 have a := (List.getElem?_eq_some_iff.1 hu).1;have q : (List.range x.2.2.1.length).all (coreAt x) = false := by
  cases q : (List.range x.2.2.1.length).all (coreAt x)
  ·rfl
  ·have := List.all_eq_true.1 q i (List.mem_range.2 a);unfold coreAt at this;rw [hu] at this;rw [← this];exact h
 unfold inI;rw [q];simp
theorem in_end {x : FabricD} (hf : fabI x = true) (hc : ∀ (i : Nat) u, x.2.2.1[i]? = some u → coreDone u (byA (i : Int) x.2.2.2.2.2) = true) : inI x = dmaW x.2.2.2.1 (byA 5 x.2.2.2.2.2) := by
 have q : (List.range x.2.2.1.length).all (coreAt x) = true := by
  rw [List.all_eq_true];intro i hi;unfold coreAt;split
  ·rename_i u hu
   exact hc i u hu
  ·rfl
 unfold inI;rw [hf, q, Bool.true_and, Bool.true_and]
end Go.Proofs.YtglejdilghcbaaaGreatDoor
