import Derived.Test.YtdamokokcdcedaaGreatDoorG00Box
import Derived.Test.YtdamokokcdcedaaGreatDoorG40
import Derived.Test.YtdamokokcdcedaaGreatDoorG41
namespace Go.Proofs.YtdamokokcdcedaaGreatDoor
open Go.ChangeShapes Go.WideShapes Go.ChangeAt Go.RowKit
set_option linter.unusedVariables false
def headF (x : FabricD) : Bool := decide (codeI x.1.1 x.1.2.1 x.1.2.2.1 x.1.2.2.2 = 0) && (houseB x.2.1 && (decide ((x.2.1.2.length : Int) = x.1.2.2.2) && (decide ((x.2.2.1.length : Int) = x.1.1) && (dmaS x.2.2.2.1 && (decide (descI x.1.1 x.1.2.1 x.1.2.2.1 x.1.2.2.2 x.2.2.2.1.1 = 0) && (netB x.2.2.2.2.1 && decide (x.2.2.2.2.2.length ≤ 200)))))))
noncomputable def coreS (c s y l : Int) (u : CoreD) : Bool := coreB u && (decide ((u.1.1.length : Int) = s) && (decide ((waysN u.1 : Int) = y) && decide (progI c s y l u.2.1 = 0)))
def entS (c : Int) (e : EntryD) : Bool := decide (e.1 < c) && (decide (e.2.1 < 2 ^ c.toNat) && !(decide (e.2.2.2.2.1 < 4) && decide (c ≤ e.2.2.2.2.1)))
def msgS (c l : Int) (m : MsgD) : Bool := decide (m.2.2.2.2.1 < l) && (!(decide (m.2.1 < 4) && decide (c ≤ m.2.1)) && !(decide (m.2.2.1 < 4) && decide (c ≤ m.2.2.1)))
noncomputable def fabS (x : FabricD) : Bool := headF x && (x.2.2.1.all (coreS x.1.1 x.1.2.1 x.1.2.2.1 x.1.2.2.2) && (x.2.2.1.all (linesIn x.1.2.2.2) && (x.2.1.2.all (entS x.1.1) && (x.2.2.2.2.1.all (msgS x.1.1 x.1.2.2.2) && x.2.2.2.2.2.all evB))))
theorem all_congr {α : Type} {p q : α → Bool} {xs : List α} (h : ∀ a ∈ xs, p a = q a) : xs.all p = xs.all q := by
 induction xs with
 | nil => rfl
 | cons a xs ih => rw [List.all_cons, List.all_cons, h a (List.mem_cons_self ..), ih fun b hb => h b (List.mem_cons_of_mem _ hb)]
theorem all_both {α : Type} {p q : α → Bool} {xs : List α} : (xs.all p && xs.all q) = xs.all fun a => p a && q a := by
 induction xs with
 | nil => rfl
 | cons a xs ih =>
  rw [List.all_cons, List.all_cons, List.all_cons, ← ih];cases p a <;> cases q a <;> cases xs.all p <;> cases xs.all q <;> rfl
set_option linter.unusedSimpArgs false
theorem shar_fin : ∀ c : Fin 5, ∀ s : Fin 16, (mems (s.val : Int) 8).all (fun k => betw k 0 ((c.val : Int) - 1)) = decide ((s.val : Int) < 2 ^ c.val) := by decide +kernel
theorem bool_iff {a b : Bool} (h : a = true ↔ b = true) : a = b := by
 cases a <;> cases b <;> simp_all
theorem ent_eq {c : Int} {e : EntryD} (h1 : 1 ≤ c) (h4 : c ≤ 4) (h : entB e = true) : entS c e = entIn c e := by
 have l : whoB e.1 e.2.1 = true := by unfold entB at h; rw [Bool.and_eq_true] at h; exact h.1
 have g : (0 ≤ e.2.2.2.2.1 ∧ e.2.2.2.2.1 ≤ 3) ∨ e.2.2.2.2.1 = 5 := by
  unfold entB at h;rw [Bool.and_eq_true] at h;have q := h.2;cases m : e.2.2.1
  ·rw [m] at q;simp only [Bool.false_eq_true, if_false, restB, Bool.and_eq_true, decide_eq_true_eq] at q;omega
  ·rw [m] at q;simp only [if_true, busyB, fromB, betw, Bool.and_eq_true, decide_eq_true_eq] at q;have j := q.2.2.1;split at j
   ·simp only [decide_eq_true_eq] at j;omega
   ·simp only [Bool.and_eq_true, decide_eq_true_eq] at j;omega
 unfold entIn holdE;rw [if_pos h];have o : (hoI e.1 e.2.1).all (coreIn c) = (decide (e.1 < c) && decide (e.2.1 < 2 ^ c.toNat)) := by
  simp only [whoB, betw, Bool.and_eq_true, decide_eq_true_eq, Bool.not_eq_true', Bool.and_eq_false_iff, decide_eq_false_iff_not, Bool.not_eq_false'] at l;obtain ⟨w1, w2, f⟩ := l;unfold hoI;by_cases k : 0 ≤ e.1
  ·have i : e.2.1 = 0 := by
     rcases f with f | f
     ·exact absurd k f
     ·exact f
   rw [if_pos k, i];have r : (0 : Int) < 2 ^ c.toNat := Int.pow_pos (by decide);rw [decide_eq_true r, Bool.and_true];simp only [List.all_cons, List.all_nil, Bool.and_true, coreIn, betw];refine bool_iff ?_;simp only [decide_eq_true_eq];omega
  ·rw [if_neg k, decide_eq_true (show e.1 < c by omega), Bool.true_and];obtain ⟨s, i⟩ : ∃ s : Fin 16, (s.val : Int) = e.2.1 := ⟨⟨e.2.1.toNat, by omega⟩, by simp; omega⟩;obtain ⟨n, p⟩ : ∃ n : Fin 5, (n.val : Int) = c := ⟨⟨c.toNat, by omega⟩, by simp; omega⟩;have q := shar_fin n s;rw [i, p] at q;rw [show c.toNat = n.val from by omega];exact q
 rw [o];unfold entS agentIn coreIn;refine bool_iff ?_;simp only [Bool.and_eq_true, Bool.or_eq_true, decide_eq_true_eq, Bool.not_eq_true', Bool.and_eq_false_iff, decide_eq_false_iff_not, betw];constructor
 ·rintro ⟨a, b, d⟩;refine ⟨?_, a, b⟩;rcases g with g | g
  ·exact .inr (.inr (by omega))
  ·exact .inr (.inl g)
 ·rintro ⟨a, b, d⟩;exact ⟨b, d, by omega⟩
theorem msg_eq {c l : Int} {m : MsgD} (h1 : 1 ≤ c) (h4 : c ≤ 4) (h : msgB m = true) : msgS c l m = msgIn c l m := by
 have hm : (0 ≤ m.2.1 ∧ m.2.1 ≤ 5) ∧ (0 ≤ m.2.2.1 ∧ m.2.2.1 ≤ 5) ∧ (0 ≤ m.2.2.2.2.1 ∧ m.2.2.2.2.1 ≤ 15) := by
  simp only [msgB, endsB, betw, Bool.and_eq_true, decide_eq_true_eq] at h;omega
 unfold msgS msgIn agentIn coreIn lineIn;refine bool_iff ?_;simp only [Bool.and_eq_true, Bool.or_eq_true, decide_eq_true_eq, Bool.not_eq_true', Bool.and_eq_false_iff, decide_eq_false_iff_not, betw];omega
theorem way_in {l : Int} {u : WayD} (h1 : 1 ≤ l) (h : clearB u = true ∨ (0 ≤ u.1 ∧ u.1 ≤ 15)) : decide (u.1 < l) = wayIn l u := by
 have hu : -1 ≤ u.1 := by
  rcases h with h | h
  ·simp only [clearB, decide_eq_true_eq] at h;omega
  ·omega
 unfold wayIn lineIn;refine bool_iff ?_;simp only [Bool.or_eq_true, decide_eq_true_eq, betw];omega
theorem core_eq {c s y l : Int} {u : CoreD} (h1 : 1 ≤ l) : (coreS c s y l u && linesIn l u) = coreFit c s y l u := by
 unfold coreS coreFit;cases a : coreB u
 ·simp
 ·have b := core_ok a;have k : rowsIn l u = waysIn l u.1 := by
   unfold rowsIn waysIn;refine all_congr fun row hrow => all_congr fun v hv => ?_;obtain ⟨i, f⟩ := List.getElem?_of_mem hrow;obtain ⟨j, o⟩ := List.getElem?_of_mem hv;obtain ⟨-, -, m, -, g⟩ := b;refine way_in h1 ?_;rcases (g i row f).2.2.1 j v o with q | ⟨q, -⟩
   ·exact .inl q
   ·simp only [fullB, decide_eq_true_eq] at q;exact .inr q.1
  have n : decide (u.2.2.2.2.1.1 < l) = wayIn l u.2.2.2.2.1 := by
   refine way_in h1 ?_;have q : restC u = true := by
    unfold coreB at a;simp only [Bool.and_eq_true] at a;exact a.2.2.2.2.2.2.2
   unfold restC at q;split at q
   ·simp only [Bool.and_eq_true, Bool.or_eq_true, goneB, fullB, betw, decide_eq_true_eq] at q;rcases q.1 with d | d
    ·exact .inr (by omega)
    ·exact .inr d.1
   ·exact .inl q
  unfold linesIn cacheIn;rw [k, n];cases decide ((u.1.1.length : Int) = s) <;> cases decide ((waysN u.1 : Int) = y) <;> cases decide (progI c s y l u.2.1 = 0) <;> cases waysIn l u.1 <;> cases wayIn l u.2.2.2.2.1 <;> rfl
theorem dma_eq {c s y l : Int} {x : DmaD} (hc : codeI c s y l = 0) : (dmaS x && decide (descI c s y l x.1 = 0)) = (dmaB x && decide (descI c s y l x.1 = 0)) := by
 unfold dmaS;by_cases b : descI c s y l x.1 = 0
 ·have hl := (code_cores hc).2;have q : x.1.all line15 = true := by
   unfold descI at b;rw [if_pos hc] at b;split at b
   ·split at b
    ·split at b
     ·rename_i a
      refine List.all_eq_true.2 fun u hu => ?_;have := List.all_eq_true.1 a u hu;simp only [dlnOk, betw, decide_eq_true_eq] at this;simp only [line15, betw, decide_eq_true_eq];omega
     ·cases b
    ·cases b
   ·cases b
  rw [q, Bool.and_true]
 ·rw [decide_eq_false b, Bool.and_false, Bool.and_false]
noncomputable def fabI (x : FabricD) : Bool := decide (codeI x.1.1 x.1.2.1 x.1.2.2.1 x.1.2.2.2 = 0) && (houseFit x && (coresFit x && (dmaFit x && (netFit x && (decide (x.2.2.2.2.2.length ≤ 200) && x.2.2.2.2.2.all evB)))))
theorem fab_eq (x : FabricD) : fabS x = fabI x := by
 unfold fabS fabI headF;by_cases b : codeI x.1.1 x.1.2.1 x.1.2.2.1 x.1.2.2.2 = 0
 ·obtain ⟨⟨d, c⟩, i, g⟩ := code_cores b;rw [decide_eq_true b];have e1 : (houseB x.2.1 && x.2.1.2.all (entS x.1.1)) = (houseB x.2.1 && x.2.1.2.all (entIn x.1.1)) := by
   cases a : houseB x.2.1
   ·rfl
   ·have q : ∀ e ∈ x.2.1.2, entB e = true := by
      unfold houseB at a;simp only [Bool.and_eq_true] at a;exact List.all_eq_true.1 a.2.2
    rw [all_congr fun e he => ent_eq d c (q e he)]
  have e2 : (netB x.2.2.2.2.1 && x.2.2.2.2.1.all (msgS x.1.1 x.1.2.2.2)) = (netB x.2.2.2.2.1 && x.2.2.2.2.1.all (msgIn x.1.1 x.1.2.2.2)) := by
   cases a : netB x.2.2.2.2.1
   ·rfl
   ·have q : ∀ m ∈ x.2.2.2.2.1, msgB m = true := by
      unfold netB at a;rw [Bool.and_eq_true] at a;exact List.all_eq_true.1 a.2
    rw [all_congr fun m hm => msg_eq d c (q m hm)]
  have f : (x.2.2.1.all (coreS x.1.1 x.1.2.1 x.1.2.2.1 x.1.2.2.2) && x.2.2.1.all (linesIn x.1.2.2.2)) = x.2.2.1.all (coreFit x.1.1 x.1.2.1 x.1.2.2.1 x.1.2.2.2) := by
   rw [all_both];exact all_congr fun u _ => core_eq i
  have e4 := dma_eq (x := x.2.2.2.1) b;unfold houseFit coresFit dmaFit netFit;generalize houseB x.2.1 = h0 at *;generalize x.2.1.2.all (entS x.1.1) = h1 at *;generalize x.2.1.2.all (entIn x.1.1) = h2 at *;generalize netB x.2.2.2.2.1 = n0 at *;generalize x.2.2.2.2.1.all (msgS x.1.1 x.1.2.2.2) = n1 at *;generalize x.2.2.2.2.1.all (msgIn x.1.1 x.1.2.2.2) = n2 at *;generalize x.2.2.1.all (coreS x.1.1 x.1.2.1 x.1.2.2.1 x.1.2.2.2) = k1 at *;generalize x.2.2.1.all (linesIn x.1.2.2.2) = k2 at *;generalize x.2.2.1.all (coreFit x.1.1 x.1.2.1 x.1.2.2.1 x.1.2.2.2) = k3 at *;generalize dmaS x.2.2.2.1 = d1 at *;generalize dmaB x.2.2.2.1 = d2 at *;generalize decide (descI x.1.1 x.1.2.1 x.1.2.2.1 x.1.2.2.2 x.2.2.2.1.1 = 0) = d3 at *;generalize decide ((x.2.1.2.length : Int) = x.1.2.2.2) = z1;generalize decide ((x.2.2.1.length : Int) = x.1.1) = z2;generalize decide (x.2.2.2.2.2.length ≤ 200) = z3;generalize x.2.2.2.2.2.all evB = z4;subst f;cases h0 <;> cases n0 <;> cases d3 <;> cases z1 <;> cases z2 <;> cases z3 <;> cases z4 <;> simp_all
  cases h2 <;> cases n2 <;> cases k1 <;> cases k2 <;> cases d2 <;> rfl
 ·rw [decide_eq_false b];simp
theorem prog_len {c s y l : Int} {p : List OpD} (h : progI c s y l p = 0) : p.length ≤ 30 := by
 unfold progI at h;split at h
 ·split at h
  ·assumption
  ·cases h
 ·cases h
theorem fab_facts {x : FabricD} (h : fabI x = true) : (1 ≤ x.1.1 ∧ x.1.1 ≤ 4) ∧ (x.2.2.1.length : Int) = x.1.1 ∧ x.2.2.2.1.1.length ≤ 30 ∧ (0 ≤ x.2.2.2.1.2.1 ∧ x.2.2.2.1.2.1 ≤ (x.2.2.2.1.1.length : Int)) ∧ ∀ u ∈ x.2.2.1, u.2.1.length ≤ 30 := by
 unfold fabI at h;simp only [Bool.and_eq_true, decide_eq_true_eq] at h;obtain ⟨c, -, b, a, -, -, -⟩ := h;unfold coresFit at b;simp only [Bool.and_eq_true, decide_eq_true_eq] at b;unfold dmaFit dmaB descsB placeB1 at a;simp only [Bool.and_eq_true, decide_eq_true_eq, betw] at a;refine ⟨(code_cores c).1, b.1, a.1.1.1, a.1.2.1, fun u hu => ?_⟩;have q := List.all_eq_true.1 b.2 u hu;unfold coreFit at q;simp only [Bool.and_eq_true, decide_eq_true_eq] at q;exact prog_len q.2.1
def wayOf (c : CacheD) (k : Int) : WayD := match atC c k with
 | some j => (rowFor c k).getD j emptyW
 | none => emptyW
theorem fab_core {x : FabricD} (h : fabI x = true) {u : CoreD} (hu : u ∈ x.2.2.1) : OkC isL treeB u.1 := by
 unfold fabI at h;simp only [Bool.and_eq_true, decide_eq_true_eq] at h;obtain ⟨hc, -, a, -⟩ := h;unfold coresFit at a;simp only [Bool.and_eq_true, decide_eq_true_eq] at a;have q := List.all_eq_true.1 a.2 u hu;unfold coreFit at q;simp only [Bool.and_eq_true, decide_eq_true_eq] at q;exact core_ok q.1
theorem fab_lines {x : FabricD} (h : fabI x = true) : (1 ≤ x.1.2.2.2 ∧ x.1.2.2.2 ≤ 16) ∧ (x.2.1.2.length : Int) = x.1.2.2.2 := by
 unfold fabI at h;simp only [Bool.and_eq_true, decide_eq_true_eq] at h;obtain ⟨b, a, -⟩ := h;unfold houseFit at a;simp only [Bool.and_eq_true, decide_eq_true_eq] at a;exact ⟨(code_cores b).2, a.2.1⟩
theorem bk_mem {α : Type} {M : Mk α} : ∀ {xs : List α} {x : α}, x ∈ xs → M.bk x ≤ sumbk M xs
 | y :: xs, x, h => by
  have e : sumbk M (y :: xs) = M.bk y + sumbk M xs := by simp [sumbk]
  rw [e];rcases List.mem_cons.1 h with rfl | h
  ·omega
  ·have := bk_mem (M := M) h;omega
theorem bk_in {α : Type} {M : Mk α} {xs : List α} {x : α} (h : x ∈ xs) : M.bk x ≤ (slM M).bk xs := by
 have := bk_mem (M := M) h;show M.bk x ≤ xs.length + sumbk M xs
 omega
theorem ints_bk (d : List Int) : d.length ≤ intsM.bk d := Nat.le_add_right _ _
theorem way_bk (u : WayD) : u.2.2.length ≤ wayM.bk u := by
 have := ints_bk u.2.2;show u.2.2.length ≤ 0 + (0 + intsM.bk u.2.2)
 omega
theorem wayOf_bk {c : CacheD} (h : OkC isL treeB c) (k : Int) : (wayOf c k).2.2.length ≤ cacheM.bk c := by
 cases a : atC c k with
 | none =>
  have d : wayOf c k = emptyW := by unfold wayOf; rw [a]
  rw [d];exact Nat.zero_le _
 | some fi =>
  obtain ⟨i, u, f, g⟩ := at_some a;have d : wayOf c k = u := by unfold wayOf; rw [a]; simp only; rw [List.getD_eq_getElem?_getD, f]; rfl
  rw [d];obtain ⟨hp, b, -⟩ := ok_row h k;have h1 := way_bk u;have h2 : wayM.bk u ≤ waysM.bk (rowFor c k) := bk_in (M := wayM) (List.mem_of_getElem? f);have h3 : waysM.bk (rowFor c k) ≤ setsM.bk c.1 := bk_in (M := waysM) (List.mem_of_getElem? b);show u.2.2.length ≤ setsM.bk c.1 + intsM.bk c.2
  omega
theorem core_bk {x : FabricD} {u : CoreD} (h : u ∈ x.2.2.1) : cacheM.bk u.1 ≤ fabricM.bk x ∧ u.2.2.2.2.1.2.2.length ≤ fabricM.bk x := by
 have h1 := bk_in (M := coreM) h;have h2 := way_bk u.2.2.2.2.1;have e : coreM.bk u = cacheM.bk u.1 + (opsM.bk u.2.1 + (0 + (0 + (wayM.bk u.2.2.2.2.1 + intsM.bk u.2.2.2.2.2)))) := rfl;have f : fabricM.bk x = 0 + (houseM.bk x.2.1 + (coresM.bk x.2.2.1 + (dmaM.bk x.2.2.2.1 + (msgsM.bk x.2.2.2.2.1 + eventsM.bk x.2.2.2.2.2)))) := rfl;have g : coresM.bk x.2.2.1 = (slM coreM).bk x.2.2.1 := rfl;omega
theorem fab_mem {x : FabricD} (h : fabI x = true) : x.2.1.2.length = x.2.1.1.length := by
 unfold fabI at h;simp only [Bool.and_eq_true, decide_eq_true_eq] at h;obtain ⟨hc, a, -⟩ := h;unfold houseFit houseB at a;simp only [Bool.and_eq_true, decide_eq_true_eq] at a;exact a.1.2.1
open Go.ChangeShapes Go.WideShapes Go.ChangeAt Go.RowKit Go.Shelf
attribute [local go_sem] Oper.semAt_some
theorem core_cacheR {w : World} {cs : List Value} {u : CoreD} (h : coreR.rd w cs u) : ∀ c f rest, cs = sL c u.1.1.length f :: rest → SlRd waysR w c u.1.1 := by
 intro c f rest e;obtain ⟨z0, z1, z2, z5, z6, z7, z8, rfl, g, -⟩ := core_rd h;obtain ⟨a, j, b, cp, d, l1, l2, m1, m2, i, h2⟩ := cache_rd g;simp only [List.cons.injEq] at e d;have := e.1.symm.trans d.1;cases this;exact i
theorem hand_keep {J : Nat → World → Prop} {B n : Nat} {V V2 : World} (HO : OwnFrom B J) (hb : Bl V V2) (h : J n V) : J n V2 :=
 HO n V V2 none h ⟨hb.os, hb.tape, hb.output, hb.size, fun k hk _ => hb.block k hk⟩ (fun r e => by cases e)
theorem fab_shape {x : FabricD} (h : fabI x = true) : (x.1.2.1.toNat = 1 ∨ x.1.2.1.toNat = 2 ∨ x.1.2.1.toNat = 4) ∧ (x.1.2.2.1.toNat = 1 ∨ x.1.2.2.1.toNat = 2 ∨ x.1.2.2.1.toNat = 4) ∧ ∀ u ∈ x.2.2.1, u.1.1.length = x.1.2.1.toNat ∧ ∀ row ∈ u.1.1, row.length = x.1.2.2.1.toNat := by
 have a : ∀ u ∈ x.2.2.1, u.1.1.length = x.1.2.1.toNat ∧ (∀ row ∈ u.1.1, row.length = x.1.2.2.1.toNat) ∧ (x.1.2.1.toNat = 1 ∨ x.1.2.1.toNat = 2 ∨ x.1.2.1.toNat = 4) ∧ (x.1.2.2.1.toNat = 1 ∨ x.1.2.2.1.toNat = 2 ∨ x.1.2.2.1.toNat = 4) := fun u b => by
  obtain ⟨k, n, l⟩ := ok_ways (fab_core h b);have d := h;unfold fabI at d;simp only [Bool.and_eq_true, decide_eq_true_eq] at d;obtain ⟨-, -, c, -⟩ := d;unfold coresFit at c;simp only [Bool.and_eq_true, decide_eq_true_eq] at c;have q := List.all_eq_true.1 c.2 u b;unfold coreFit at q;simp only [Bool.and_eq_true, decide_eq_true_eq] at q;have g := q.2.2.1;unfold cacheIn at g;simp only [Bool.and_eq_true, decide_eq_true_eq] at g;have i : u.1.1.length = x.1.2.1.toNat := by omega
  have f : waysN u.1 = x.1.2.2.1.toNat := by omega
  exact ⟨i, fun row hr => by rw [← f]; exact l row hr, by rw [← i]; exact k, by rw [← f]; exact n⟩
 obtain ⟨hc, j, -⟩ := fab_facts h;obtain ⟨u, b⟩ : ∃ u, u ∈ x.2.2.1 := by
  cases m : x.2.2.1 with
  | nil => rw [m] at j; simp at j; omega
  | cons u r => exact ⟨u, by simp⟩
 exact ⟨(a u b).2.2.1, (a u b).2.2.2, fun v hv => ⟨(a v hv).1, (a v hv).2.1⟩⟩
set_option maxHeartbeats 4000000 in
set_option maxRecDepth 20000 in
theorem handFlushed (x : FabricD) (a1 : Option Addr) (c1 : Nat) (l : Option Addr) (d1 : Nat) (a2 : Option Addr) (c2 : Nat) (a3 : Option Addr) (c3 : Nat) (b3 : Option Addr) (d3 : Nat) (a4 : Option Addr) (c4 : Nat) (a5 : Option Addr) (c5 : Nat) (W0 : World) (R : FabRd W0 x a1 c1 l d1 a2 c2 a3 c3 b3 d3 a4 c4 a5 c5) (S M : Nat) (hS : S = 1 ∨ S = 2 ∨ S = 4) (hM : M = 1 ∨ M = 2 ∨ M = 4) (HSM : ∀ u ∈ x.2.2.1, u.1.1.length = S ∧ ∀ j ∈ u.1.1, j.length = M) (tb : Nat) (w : World) (J : Nat → World → Prop) (HO : OwnFrom w.heap.size J) (HB : ∀ n W, J n W → Bl W0 W)
    (HE : ∀ (i k : Nat) (u : CoreD) W, x.2.2.1[i]? = some u → k < S * M → clearB (wayK u.1 M k) = true → J (i * (S * M) + k) W → J (i * (S * M) + k + 1) W)
    (HT : ∀ (i k : Nat) (u : CoreD) ua uc W, x.2.2.1[i]? = some u → k < S * M → clearB (wayK u.1 M k) = false → SlRd intR W ua (wayK u.1 M k).2.2 → J (i * (S * M) + k) W → Calls Tryz.prog 35 #[nI i, .agg #[nI (wayK u.1 M k).1, nI (wayK u.1 M k).2.1, sL ua (wayK u.1 M k).2.2.length uc], .pointer (some ⟨tb, 0, none⟩)] W fun e W' => (∃ v, e = .returned v) ∧ Kept w.heap.size W W' ∧ J (i * (S * M) + k + 1) W')
    (h0 : J 0 w) :
    Calls Tryz.prog 34 #[.agg #[nI x.1.1, nI x.1.2.1, nI x.1.2.2.1, nI x.1.2.2.2, sL a1 x.2.1.1.length c1, sL l x.2.1.2.length d1, sL a2 x.2.2.1.length c2, sL a3 x.2.2.2.1.1.length c3, nI x.2.2.2.1.2.1, .bool x.2.2.2.1.2.2.1, sL b3 x.2.2.2.1.2.2.2.length d3, sL a4 x.2.2.2.2.1.length c4, sL a5 x.2.2.2.2.2.length c5], .func (.func 35) #[] #[.pointer (some ⟨tb, 0, none⟩)]] w fun e w' => (∃ v, e = .returned v) ∧ J (x.2.2.1.length * (S * M)) w' := by
 have RC : Hid (∀ W, Bl W0 W → SlRd coreR W a2 x.2.2.1) := fun W hb => (fab_next R hb).cores;have iC : x.2.2.1.length ≤ 9223372036854775807 := R.coresl;have kA : 0 < M := by omega
 have iB : Hid _ := HSM;have BB : Hid _ := HE;have XB : Hid _ := HT;clear R HSM HE HT;have z1 := heap_at w (.cells #[nI x.1.1, nI x.1.2.1, nI x.1.2.2.1, nI x.1.2.2.2, sL a1 x.2.1.1.length c1, sL l x.2.1.2.length d1, sL a2 x.2.2.1.length c2, sL a3 x.2.2.2.1.1.length c3, nI x.2.2.2.1.2.1, .bool x.2.2.2.1.2.2.1, sL b3 x.2.2.2.1.2.2.2.length d3, sL a4 x.2.2.2.2.1.length c4, sL a5 x.2.2.2.2.2.length c5] 49);have z2 := heap_at (w.alloc (.cells #[nI x.1.1, nI x.1.2.1, nI x.1.2.2.1, nI x.1.2.2.2, sL a1 x.2.1.1.length c1, sL l x.2.1.2.length d1, sL a2 x.2.2.1.length c2, sL a3 x.2.2.2.1.1.length c3, nI x.2.2.2.1.2.1, .bool x.2.2.2.1.2.2.1, sL b3 x.2.2.2.1.2.2.2.length d3, sL a4 x.2.2.2.2.1.length c4, sL a5 x.2.2.2.2.2.length c5] 49)) (.cells #[.func (.func 35) #[] #[.pointer (some ⟨tb, 0, none⟩)]] 77);rw [alloc_len] at z2;have j0 := HO.alloc (.cells #[.func (.func 35) #[] #[.pointer (some ⟨tb, 0, none⟩)]] 77) (HO.alloc (.cells #[nI x.1.1, nI x.1.2.1, nI x.1.2.2.1, nI x.1.2.2.2, sL a1 x.2.1.1.length c1, sL l x.2.1.2.length d1, sL a2 x.2.2.1.length c2, sL a3 x.2.2.2.1.1.length c3, nI x.2.2.2.1.2.1, .bool x.2.2.2.1.2.2.1, sL b3 x.2.2.2.1.2.2.2.length d3, sL a4 x.2.2.2.2.1.length c4, sL a5 x.2.2.2.2.2.length c5] 49) h0);have z3 := heap_on (.cells #[.func (.func 35) #[] #[.pointer (some ⟨tb, 0, none⟩)]] 77) z1;have XA : w.heap.size + 1 < ((w.alloc (.cells #[nI x.1.1, nI x.1.2.1, nI x.1.2.2.1, nI x.1.2.2.2, sL a1 x.2.1.1.length c1, sL l x.2.1.2.length d1, sL a2 x.2.2.1.length c2, sL a3 x.2.2.2.1.1.length c3, nI x.2.2.2.1.2.1, .bool x.2.2.2.1.2.2.1, sL b3 x.2.2.2.1.2.2.2.length d3, sL a4 x.2.2.2.2.1.length c4, sL a5 x.2.2.2.2.2.length c5] 49)).alloc (.cells #[.func (.func 35) #[] #[.pointer (some ⟨tb, 0, none⟩)]] 77)).heap.size := by simp
 refine (callsIn_wide (n := 0)).1 ?_;refine callsIn_of_wp_marks Tryz.func34 rfl trivial ?_ rfl;simp only [Tryz.ntmps34, List.size_toArray, List.length_cons, List.length_nil, Nat.reduceAdd, Nat.reduceSub, Array.replicate_succ, Array.replicate_zero, List.push_toArray, List.append_toArray, List.nil_append, List.cons_append];clear z1 h0;obtain ⟨f0, f1, f2, f3, f4, f5, f6, f7, f8, f9, UB, SB, FB⟩ := cells_fabric z3;have jB : Hid _ := z2;clear z3 z2;gi_wp2
 clear f0 f1 f2 f3 f4 f5 f6 f7 f8 f9 UB SB FB;have z2 := jB.out;clear jB;generalize (w.alloc (.cells #[nI x.1.1, nI x.1.2.1, nI x.1.2.2.1, nI x.1.2.2.2, sL a1 x.2.1.1.length c1, sL l x.2.1.2.length d1, sL a2 x.2.2.1.length c2, sL a3 x.2.2.2.1.1.length c3, nI x.2.2.2.1.2.1, .bool x.2.2.2.1.2.2.1, sL b3 x.2.2.2.1.2.2.2.length d3, sL a4 x.2.2.2.2.1.length c4, sL a5 x.2.2.2.2.2.length c5] 49)).alloc (.cells #[.func (.func 35) #[] #[.pointer (some ⟨tb, 0, none⟩)]] 77) = W1 at z2 j0 XA ⊢
 refine wpIn_loop (fun a wr => ∃ (i : Nat) (Ds : List Nat) (u4 u5 u6 u7 u8 eB aB RA jA fA lA VA iA eA CA vA AA KA yA GA IA LA : Value), i ≤ x.2.2.1.length ∧ Ds.Nodup ∧ (∀ D ∈ Ds, w.heap.size ≤ D ∧ wr.heap[D]? = some (.deferred (some []))) ∧ J (i * (S * M)) wr ∧ wr.heap[w.heap.size + 1]? = some (.cells #[.func (.func 35) #[] #[.pointer (some ⟨tb, 0, none⟩)]] 77 (0, 0)) ∧
     a = { tmps := #[.agg #[nI x.1.1, nI x.1.2.1, nI x.1.2.2.1, nI x.1.2.2.2, sL a1 x.2.1.1.length c1, sL l x.2.1.2.length d1, sL a2 x.2.2.1.length c2, sL a3 x.2.2.2.1.1.length c3, nI x.2.2.2.1.2.1, .bool x.2.2.2.1.2.2.1, sL b3 x.2.2.2.1.2.2.2.length d3, sL a4 x.2.2.2.2.1.length c4, sL a5 x.2.2.2.2.2.length c5], .func (.func 35) #[] #[.pointer (some ⟨tb, 0, none⟩)], .pointer (some ⟨w.heap.size, 0, none⟩), .pointer (some ⟨w.heap.size + 1, 0, none⟩), u4, u5, u6, u7, u8, sL a2 x.2.2.1.length c2, nI x.2.2.1.length, nI i, eB, aB, RA, jA, fA, lA, VA, iA, eA, CA, vA, AA, KA, yA, GA, IA, LA], defers := Ds.map mark })
  (fun a _ => x.2.2.1.length - (intOf (a.tmps.getD 11 undef)).toNat) ⟨0, [], _, _, _, _, _, _, _, _, _, _, _, _, _, _, _, _, _, _, _, _, _, _, Nat.zero_le _, List.nodup_nil, by simp, by simpa using j0, z2, rfl⟩ ?_
 clear j0 z2 XA;rintro a wr ⟨i, Ds, u4, u5, u6, u7, u8, eB, aB, RA, jA, fA, lA, VA, iA, eA, CA, vA, AA, KA, yA, GA, IA, LA, hi, JA, H, hj, MA, rfl⟩;by_cases UA : i < x.2.2.1.length
 ·have mC : (i : Int) < (x.2.2.1.length : Int) := by omega
  obtain ⟨u, hu⟩ : ∃ u, x.2.2.1[i]? = some u := ⟨_, List.getElem?_eq_getElem UA⟩;obtain ⟨bb, f, cs, ra, aA, b⟩ := slrd_at (RC.out _ (Below.refl _ _)) hu;have q := HB _ _ hj;have SA := core_cacheR aA;obtain ⟨ga, y, C, A, ha, hc, ia, ic, ja, jc, rfl⟩ := core_shape aA;have pA := SA _ _ _ rfl;obtain ⟨G, Z⟩ := iB.out u (List.mem_of_getElem? hu);obtain ⟨s, d, L, DB, BA, fB⟩ := setsAt_of pA (fun e => by rw [e] at G; simp at G; omega) kA Z;subst DB;rw [G] at BA;have y0 := cell_keep q (b 0 _ rfl) (cell_lt (b 0 _ rfl));rw [show f + (i * coreR.size + 0) = f + i * 9 from rfl] at y0;have y1 := cell_keep q (b 1 _ rfl) (cell_lt (b 1 _ rfl));rw [show f + (i * coreR.size + 1) = f + i * 9 + 1 from rfl] at y1;have y2 := cell_keep q (b 2 _ rfl) (cell_lt (b 2 _ rfl));rw [show f + (i * coreR.size + 2) = f + i * 9 + 2 from rfl] at y2;have y3 := cell_keep q (b 3 _ rfl) (cell_lt (b 3 _ rfl));rw [show f + (i * coreR.size + 3) = f + i * 9 + 3 from rfl] at y3;have y4 := cell_keep q (b 4 _ rfl) (cell_lt (b 4 _ rfl));rw [show f + (i * coreR.size + 4) = f + i * 9 + 4 from rfl] at y4;have y5 := cell_keep q (b 5 _ rfl) (cell_lt (b 5 _ rfl));rw [show f + (i * coreR.size + 5) = f + i * 9 + 5 from rfl] at y5;have y6 := cell_keep q (b 6 _ rfl) (cell_lt (b 6 _ rfl));rw [show f + (i * coreR.size + 6) = f + i * 9 + 6 from rfl] at y6;have y7 := cell_keep q (b 7 _ rfl) (cell_lt (b 7 _ rfl));rw [show f + (i * coreR.size + 7) = f + i * 9 + 7 from rfl] at y7;have y8 := cell_keep q (b 8 _ rfl) (cell_lt (b 8 _ rfl));rw [show f + (i * coreR.size + 8) = f + i * 9 + 8 from rfl] at y8;subst ra;have HG : Hid (∀ k, k < S * M → ((L (k / M)).way (k % M)).line = (wayK u.1 M k).1 ∧ ((L (k / M)).way (k % M)).state = (wayK u.1 M k).2.1 ∧ ((L (k / M)).way (k % M)).len = (wayK u.1 M k).2.2.length ∧ (wayK u.1 M k).2.2.length ≤ maxLen ∧ SlRd intR W0 ((L (k / M)).way (k % M)).addr (wayK u.1 M k).2.2) := fun k hk => by
   obtain ⟨j, e1, e2⟩ := wayK_get kA Z (by rw [G]; exact hk);obtain ⟨q1, q2, q3, q4, q5, q6⟩ := fB _ _ j _ e1 e2;exact ⟨q1, q2, q3, Nat.le_trans q4 q5, q6⟩
  have HA : Hid _ := BA;have LC : w.heap.size + 1 < wr.heap.size := (ltH MA);have HU : Hid _ := hu;have HL : Hid _ := G;clear b aA SA pA fB Z hu BA G q;have t1 := heap_at wr (.cells #[nI i] 3);have t2 := heap_at (wr.alloc (.cells #[nI i] 3)) (.cells #[sL (some ⟨s, d, none⟩) u.1.1.length y, sL C u.1.2.length A, sL ha u.2.1.length hc, nI u.2.2.1, nI u.2.2.2.1, nI u.2.2.2.2.1.1, nI u.2.2.2.2.1.2.1, sL ia u.2.2.2.2.1.2.2.length ic, sL ja u.2.2.2.2.2.length jc] 98);rw [alloc_len] at t2;have t3 := heap_at ((wr.alloc (.cells #[nI i] 3)).alloc (.cells #[sL (some ⟨s, d, none⟩) u.1.1.length y, sL C u.1.2.length A, sL ha u.2.1.length hc, nI u.2.2.1, nI u.2.2.2.1, nI u.2.2.2.2.1.1, nI u.2.2.2.2.1.2.1, sL ia u.2.2.2.2.1.2.2.length ic, sL ja u.2.2.2.2.2.length jc] 98)) (.cells #[sL (some ⟨s, d, none⟩) u.1.1.length y, sL C u.1.2.length A] 95);rw [alloc_len, alloc_len] at t3;have U := heap_on (.cells #[sL (some ⟨s, d, none⟩) u.1.1.length y, sL C u.1.2.length A] 95) (heap_on (.cells #[sL (some ⟨s, d, none⟩) u.1.1.length y, sL C u.1.2.length A, sL ha u.2.1.length hc, nI u.2.2.1, nI u.2.2.2.1, nI u.2.2.2.2.1.1, nI u.2.2.2.2.1.2.1, sL ia u.2.2.2.2.1.2.2.length ic, sL ja u.2.2.2.2.2.length jc] 98) t1);have B := heap_on (.cells #[sL (some ⟨s, d, none⟩) u.1.1.length y, sL C u.1.2.length A] 95) (heap_on (.cells #[sL (some ⟨s, d, none⟩) u.1.1.length y, sL C u.1.2.length A, sL ha u.2.1.length hc, nI u.2.2.1, nI u.2.2.2.1, nI u.2.2.2.2.1.1, nI u.2.2.2.2.1.2.1, sL ia u.2.2.2.2.1.2.2.length ic, sL ja u.2.2.2.2.2.length jc] 98) (heap_on (.cells #[nI i] 3) MA));have bA := HO.alloc (.cells #[sL (some ⟨s, d, none⟩) u.1.1.length y, sL C u.1.2.length A] 95) (HO.alloc (.cells #[sL (some ⟨s, d, none⟩) u.1.1.length y, sL C u.1.2.length A, sL ha u.2.1.length hc, nI u.2.2.1, nI u.2.2.2.1, nI u.2.2.2.2.1.1, nI u.2.2.2.2.1.2.1, sL ia u.2.2.2.2.1.2.2.length ic, sL ja u.2.2.2.2.2.length jc] 98) (HO.alloc (.cells #[nI i] 3) hj));have z : ∀ D ∈ Ds, w.heap.size ≤ D ∧ D < wr.heap.size ∧ (((wr.alloc (.cells #[nI i] 3)).alloc (.cells #[sL (some ⟨s, d, none⟩) u.1.1.length y, sL C u.1.2.length A, sL ha u.2.1.length hc, nI u.2.2.1, nI u.2.2.2.1, nI u.2.2.2.2.1.1, nI u.2.2.2.2.1.2.1, sL ia u.2.2.2.2.1.2.2.length ic, sL ja u.2.2.2.2.2.length jc] 98)).alloc (.cells #[sL (some ⟨s, d, none⟩) u.1.1.length y, sL C u.1.2.length A] 95)).heap[D]? = some (.deferred (some [])) := fun D hD => ⟨(H D hD).1, (Array.getElem?_eq_some_iff.1 (H D hD).2).1, heap_on _ (heap_on _ (heap_on _ (H D hD).2))⟩;have sz : (((wr.alloc (.cells #[nI i] 3)).alloc (.cells #[sL (some ⟨s, d, none⟩) u.1.1.length y, sL C u.1.2.length A, sL ha u.2.1.length hc, nI u.2.2.1, nI u.2.2.2.1, nI u.2.2.2.2.1.1, nI u.2.2.2.2.1.2.1, sL ia u.2.2.2.2.1.2.2.length ic, sL ja u.2.2.2.2.2.length jc] 98)).alloc (.cells #[sL (some ⟨s, d, none⟩) u.1.1.length y, sL C u.1.2.length A] 95)).heap.size = wr.heap.size + 1 + 1 + 1 := by simp
  have HK : Hid _ := aI U (aI t3 (aI B (aI bA (aI z sz))));clear t1 t2 t3 U MA B hj bA H z sz;gi_wp2
  refine ⟨trivial, rfl, (callsIn_wide.2 (everyWay_any _ _ _ _ _ _ _ _ rfl rfl _)).mono ?_⟩;rintro e w' ⟨rfl, rfl⟩;gi_wp2
  clear y0 y1 y2 y3 y4 y5 y6 y7 y8;obtain ⟨U, t3, B, bA, z, sz⟩ := HK.out;clear HK;generalize ((wr.alloc (.cells #[nI i] 3)).alloc (.cells #[sL (some ⟨s, d, none⟩) u.1.1.length y, sL C u.1.2.length A, sL ha u.2.1.length hc, nI u.2.2.1, nI u.2.2.2.1, nI u.2.2.2.2.1.1, nI u.2.2.2.2.1.2.1, sL ia u.2.2.2.2.1.2.2.length ic, sL ja u.2.2.2.2.2.length jc] 98)).alloc (.cells #[sL (some ⟨s, d, none⟩) u.1.1.length y, sL C u.1.2.length A] 95) = W2 at U t3 B bA z sz ⊢;have CB : Hid (∀ (V : World) (D : Nat), (∀ E ∈ Ds, w.heap.size ≤ E ∧ E < wr.heap.size ∧ V.heap[E]? = some (.deferred (some []))) → W2.heap.size ≤ D → V.heap[D]? = some (.deferred (some [])) → (D :: Ds).Nodup ∧ ∀ E ∈ D :: Ds, w.heap.size ≤ E ∧ V.heap[E]? = some (.deferred (some []))) := by
   intro V D h1 h2 h3;refine ⟨List.nodup_cons.2 ⟨fun h => by have := (h1 D h).2.1; omega, JA⟩, fun E hE => ?_⟩;rcases List.mem_cons.1 hE with rfl | hE
   ·exact ⟨by omega, h3⟩
   ·exact ⟨(h1 E hE).1, (h1 E hE).2.2⟩
  clear JA;refine range_iter (N := S * M) (lb := #[.pointer (some ⟨wr.heap.size + 1 + 1, 0, none⟩)]) (gf := 158) rfl (enters_of Tryz.func158 (by kernel_rfl) rfl)
   (everyWay1_iter (wr.heap.size + 1 + 1) s d S M y L (by omega) (by omega) (by omega) kA) (fun _ => rfl)
   (fun k V => J (i * (S * M) + k) V ∧ V.heap[w.heap.size + 1]? = some (.cells #[.func (.func 35) #[] #[.pointer (some ⟨tb, 0, none⟩)]] 77 (0, 0)) ∧ V.heap[wr.heap.size]? = some (.cells #[nI i] 3 (0, 0)) ∧ V.heap[wr.heap.size + 1 + 1]? = some (.cells #[sL (some ⟨s, d, none⟩) u.1.1.length y, sL C u.1.2.length A] 95 (0, 0)) ∧ (∀ D ∈ Ds, w.heap.size ≤ D ∧ D < wr.heap.size ∧ V.heap[D]? = some (.deferred (some []))))
   (fun _ _ _ => False)
   ?hI (fun x => ownFrom_pure _ _) ?hR ?h0
   (fun k a' V => ∃ B7, W2.heap.size < B7 ∧ V.heap[B7]? = some (.cells #[nI ((L (k / M)).way (k % M)).line, nI ((L (k / M)).way (k % M)).state, .slice ((L (k / M)).way (k % M)).addr ((L (k / M)).way (k % M)).len ((L (k / M)).way (k % M)).cap] 74 (0, 0)) ∧ (J (i * (S * M) + k) V ∧ V.heap[w.heap.size + 1]? = some (.cells #[.func (.func 35) #[] #[.pointer (some ⟨tb, 0, none⟩)]] 77 (0, 0)) ∧ V.heap[wr.heap.size]? = some (.cells #[nI i] 3 (0, 0)) ∧ V.heap[wr.heap.size + 1 + 1]? = some (.cells #[sL (some ⟨s, d, none⟩) u.1.1.length y, sL C u.1.2.length A] 95 (0, 0)) ∧ (∀ D ∈ Ds, w.heap.size ≤ D ∧ D < wr.heap.size ∧ V.heap[D]? = some (.deferred (some [])))) ∧ ∃ (jA fA lA iA eA : Value),
    a' = { tmps := #[.agg #[nI x.1.1, nI x.1.2.1, nI x.1.2.2.1, nI x.1.2.2.2, sL a1 x.2.1.1.length c1, sL l x.2.1.2.length d1, sL (some ⟨bb, f, none⟩) x.2.2.1.length c2, sL a3 x.2.2.2.1.1.length c3, nI x.2.2.2.1.2.1, .bool x.2.2.2.1.2.2.1, sL b3 x.2.2.2.1.2.2.2.length d3, sL a4 x.2.2.2.2.1.length c4, sL a5 x.2.2.2.2.2.length c5], .func (.func 35) #[] #[.pointer (some ⟨tb, 0, none⟩)], .pointer (some ⟨w.heap.size, 0, none⟩), .pointer (some ⟨w.heap.size + 1, 0, none⟩), .pointer (some ⟨wr.heap.size, 0, none⟩), .pointer (some ⟨wr.heap.size + 1, 0, none⟩), u6, .pointer (some ⟨B7, 0, none⟩), u8, sL (some ⟨bb, f, none⟩) x.2.2.1.length c2, nI x.2.2.1.length, nI i, .bool true, nI i, .pointer (some ⟨bb, f + i * 9, none⟩), jA, fA, lA, .func (.func 158) #[] #[.pointer (some ⟨wr.heap.size + 1 + 1, 0, none⟩)], iA, eA, CA, vA, AA, KA, yA, GA, IA, LA], defers := [] })
   ?hA ?hassign ?hbody ?hdone ?hstop
  case hI =>
   rintro k X Y j ⟨p, m, r, o, g⟩ T O
   exact ⟨own_later HO (by omega) _ X Y j p T O, own_heap (β := Unit) _ _ _ _ () X Y j m T O, own_heap (β := Unit) _ _ _ _ () X Y j r T O, own_heap (β := Unit) _ _ _ _ () X Y j o T O,
    fun D hD => ⟨(g D hD).1, (g D hD).2.1, own_blk (β := Unit) (by have := (g D hD).2.1; omega) () X Y j (g D hD).2.2 T O⟩⟩
  case hR =>
   rintro k V ⟨p, _, _, o, _⟩;have hb := HB _ _ p;refine ⟨by rw [cell_of_row V _ 0 _ _ (0, 0) o, HL.out]; rfl, ?_⟩;exact setsAt_below HA.out hb kA
  case h0 => exact ⟨by simpa using bA, B, U, t3, z⟩
  case hA =>
   rintro k a' ⟨⟩ X Y j ⟨B7, l7, F, ⟨p, m, r, o, g⟩, YA, TA, gB, dB, ZA, rfl⟩ T O
   exact ⟨B7, l7, own_heap (β := Unit) _ _ _ _ () X Y j F T O, ⟨own_later HO (by omega) _ X Y j p T O, own_heap (β := Unit) _ _ _ _ () X Y j m T O, own_heap (β := Unit) _ _ _ _ () X Y j r T O, own_heap (β := Unit) _ _ _ _ () X Y j o T O,
    fun D hD => ⟨(g D hD).1, (g D hD).2.1, own_blk (β := Unit) (by have := (g D hD).2.1; omega) () X Y j (g D hD).2.2 T O⟩⟩, YA, TA, gB, dB, ZA, rfl⟩
  case hassign =>
   rintro k V K hk ⟨p, m, r, o, g⟩ hv hK;gi_wp2
   exact hK _ _ (Kept.alloc _ _ _) ⟨V.heap.size, by omega, heap_at _ _, ⟨HO.alloc _ p, heap_on _ m, heap_on _ r, heap_on _ o, fun D hD => ⟨(g D hD).1, (g D hD).2.1, heap_on _ (g D hD).2.2⟩⟩, _, _, _, _, _, rfl⟩
  case hbody =>
   rintro k a' V hk ⟨B7, l7, F, ⟨p, m, r, o, g⟩, YA, TA, gB, dB, ZA, rfl⟩ hv _ _;obtain ⟨q1, q2, q3, q4, q5⟩ := HG.out k hk;rw [q1, q2, q3] at F;generalize ((L (k / M)).way (k % M)).addr = ad at F q5;generalize ((L (k / M)).way (k % M)).cap = cpw at F;have HC : Hid (∀ W, Calls Tryz.prog 94 #[.agg #[nI (wayK u.1 M k).1, nI (wayK u.1 M k).2.1, sL ad (wayK u.1 M k).2.2.length cpw]] W fun e w' => e = .returned (.bool (clearB (wayK u.1 M k))) ∧ Bl W w') := fun W => by rw [← clr_eq]; exact implEmpty_any _ _ _ _ _ W q4
   have LB : Hid (∀ W, Bl W0 W → SlRd intR W ad (wayK u.1 M k).2.2) := fun W hb => slrd_next q5 hb;clear q1 q2 q3 q4 q5;obtain ⟨x0, x1, x2⟩ := cells_three F;have y0 : V.cell? ⟨w.heap.size + 1, 0, none⟩ = some (.func (.func 35) #[] #[.pointer (some ⟨tb, 0, none⟩)]) := by rw [cell_of_row V _ 0 _ _ (0, 0) m]; rfl
   have y1 : V.cell? ⟨wr.heap.size, 0, none⟩ = some (nI i) := by rw [cell_of_row V _ 0 _ _ (0, 0) r]; rfl
   have bw : w.heap.size + 1 < V.heap.size := (ltH m);have AC : wr.heap.size + 1 + 1 < V.heap.size := (ltH o);have cA : Hid _ := aI p (aI m (aI r (aI o (aI g F))));cases I : clearB (wayK u.1 M k)
   ·rw [I] at HC;have HQ : Hid _ := I;clear p m r o g F I;gi_wp2
    refine ⟨trivial, rfl, (CallsIn.inRound _ (callsIn_wide.2 (HC.out _))).mono ?_⟩;rintro e V2 ⟨rfl, l⟩;obtain ⟨p, m, r, o, g, F⟩ := cA.out;clear cA x0 x1 x2 y0 y1;replace p := hand_keep HO l p;replace m := row_keep l m;replace r := row_keep l r;replace o := row_keep l o;replace F := row_keep l F;replace g : ∀ D ∈ Ds, w.heap.size ≤ D ∧ D < wr.heap.size ∧ V2.heap[D]? = some (.deferred (some [])) := fun D hD => ⟨(g D hD).1, (g D hD).2.1, (l.block D (by have := (g D hD).2.1; omega)).trans (g D hD).2.2⟩;have bv := l.size;obtain ⟨x0, x1, x2⟩ := cells_three F;have y0 : V2.cell? ⟨w.heap.size + 1, 0, none⟩ = some (.func (.func 35) #[] #[.pointer (some ⟨tb, 0, none⟩)]) := by rw [cell_of_row V2 _ 0 _ _ (0, 0) m]; rfl
    have y1 : V2.cell? ⟨wr.heap.size, 0, none⟩ = some (nI i) := by rw [cell_of_row V2 _ 0 _ _ (0, 0) r]; rfl
    have TB : Hid _ := XB.out i k u ad cpw V2 HU.out hk HQ.out (LB.out _ (HB _ _ p)) p;have cA : Hid _ := aI m (aI r (aI o g));have NB : Hid (Kept W2.heap.size V V2) := Kept.below l;clear p m r o g F l;gi_wp2
    refine ⟨trivial, rfl, (CallsIn.inRound _ (callsIn_wide.2 TB.out)).mono ?_⟩;rintro e V3 ⟨⟨v, rfl⟩, dA, KB⟩;clear x0 x1 x2 y0 y1;gi_wp2
    obtain ⟨m, r, o, g⟩ := cA.out;refine ⟨NB.out.trans (dA.mono (by omega)), KB, (dA.2 _ (by omega) (by omega)).trans m, (dA.2 _ (by omega) (by omega)).trans r, (dA.2 _ (by omega) (by omega)).trans o, fun D hD => ⟨(g D hD).1, (g D hD).2.1, (dA.2 _ (g D hD).1 (by have := (g D hD).2.1; omega)).trans (g D hD).2.2⟩⟩
   ·rw [I] at HC;have HQ : Hid _ := I;clear p m r o g F I;gi_wp2
    refine ⟨trivial, rfl, (CallsIn.inRound _ (callsIn_wide.2 (HC.out _))).mono ?_⟩;rintro e V2 ⟨rfl, l⟩;clear x0 x1 x2 y0 y1;gi_wp2
    obtain ⟨p, m, r, o, g, F⟩ := cA.out;exact ⟨Kept.below l, BB.out i k u V2 HU.out hk HQ.out (hand_keep HO l p), row_keep l m, row_keep l r, row_keep l o, fun D hD => ⟨(g D hD).1, (g D hD).2.1, (l.block D (by have := (g D hD).2.1; omega)).trans (g D hD).2.2⟩⟩
  case hdone =>
   rintro V ⟨p, m, r, o, g⟩ hK;obtain ⟨n1, n2⟩ := CB.out V _ g (Nat.le_refl _) hK;gi_wp2
   refine ⟨⟨i + 1, W2.heap.size :: Ds, _, _, _, _, _, _, _, _, _, _, _, _, _, _, _, _, _, _, _, _, _, _, UA, n1, n2, by rw [Nat.add_one_mul]; exact p, m, rfl⟩, ?_⟩;simp [intOf]
   omega
  case hstop => exact fun c k W hk hf _ => hf.elim
 ·have EB : i = x.2.2.1.length := by omega
  have OC : ¬ ((i : Int) < (x.2.2.1.length : Int)) := by omega
  subst EB;gi_wp2
  refine leaves_marks (fun V => J (x.2.2.1.length * (S * M)) V) Ds wr JA (fun D hD => (H D hD).2) (fun D hD V' h hd => HO.putObj _ h (H D hD).1 hd rfl) hj ?_;intro V' h';exact ⟨_, results_none rfl _ _ _, ⟨_, rfl⟩, h'⟩
end Go.Proofs.YtdamokokcdcedaaGreatDoor
