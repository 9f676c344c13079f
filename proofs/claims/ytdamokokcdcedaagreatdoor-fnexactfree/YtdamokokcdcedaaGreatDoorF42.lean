import Derived.Test.YtdamokokcdcedaaGreatDoorF00Box
import Derived.Test.YtdamokokcdcedaaGreatDoorF40
import Derived.Test.YtdamokokcdcedaaGreatDoorF41
namespace Go.Proofs.YtdamokokcdcedaaGreatDoor
set_option maxHeartbeats 2000000
set_option maxRecDepth 20000
open Go.ChangeShapes Go.WideShapes Go.ChangeAt Go.RowKit
set_option linter.unusedVariables false
def headF (x : FabricD) : Bool := decide (codeI x.1.1 x.1.2.1 x.1.2.2.1 x.1.2.2.2 = 0) && (houseB x.2.1 && (decide ((x.2.1.2.length : Int) = x.1.2.2.2) && (decide ((x.2.2.1.length : Int) = x.1.1) && (dmaS x.2.2.2.1 && (decide (descI x.1.1 x.1.2.1 x.1.2.2.1 x.1.2.2.2 x.2.2.2.1.1 = 0) && (netB x.2.2.2.2.1 && decide (x.2.2.2.2.2.length ≤ 200)))))))
noncomputable def coreS (c s y l : Int) (u : CoreD) : Bool := coreB u && (decide ((u.1.1.length : Int) = s) && (decide ((waysN u.1 : Int) = y) && decide (progI c s y l u.2.1 = 0)))
def entS (c : Int) (e : EntryD) : Bool := decide (e.1 < c) && (decide (e.2.1 < 2 ^ c.toNat) && !(decide (e.2.2.2.2.1 < 4) && decide (c ≤ e.2.2.2.2.1)))
def msgS (c l : Int) (m : MsgD) : Bool := decide (m.2.2.2.2.1 < l) && (!(decide (m.2.1 < 4) && decide (c ≤ m.2.1)) && !(decide (m.2.2.1 < 4) && decide (c ≤ m.2.2.1)))
noncomputable def fabS (x : FabricD) : Bool := headF x && (x.2.2.1.all (coreS x.1.1 x.1.2.1 x.1.2.2.1 x.1.2.2.2) && (x.2.2.1.all (linesIn x.1.2.2.2) && (x.2.1.2.all (entS x.1.1) && (x.2.2.2.2.1.all (msgS x.1.1 x.1.2.2.2) && x.2.2.2.2.2.all evB))))
theorem all_congr {α : Type} {p q : α → Bool} {xs : List α} (h : ∀ a ∈ xs, p a = q a) : xs.all p = xs.all q := by
 induction xs with
 | nil => rfl
 | cons a xs ih => rw [List.all_cons, List.all_cons, h a (List.mem_cons_self ..), ih fun b hb => h b (List.mem_cons_of_mem _ hb)]
theorem all_both {α : Type} {p q : α → Bool} {xs : List α} : (xs.all p && xs.all q) = xs.all fun a => p a && q a := by
 induction xs with
 | nil => rfl
 | cons a xs ih =>
  rw [List.all_cons, List.all_cons, List.all_cons, ← ih];cases p a <;> cases q a <;> cases xs.all p <;> cases xs.all q <;> rfl
set_option linter.unusedSimpArgs false
theorem shar_fin : ∀ c : Fin 5, ∀ s : Fin 16, (mems (s.val : Int) 8).all (fun k => betw k 0 ((c.val : Int) - 1)) = decide ((s.val : Int) < 2 ^ c.val) := by decide +kernel
theorem bool_iff {a b : Bool} (h : a = true ↔ b = true) : a = b := by
 cases a <;> cases b <;> simp_all
theorem ent_eq {c : Int} {e : EntryD} (h1 : 1 ≤ c) (h4 : c ≤ 4) (h : entB e = true) : entS c e = entIn c e := by
 have l : whoB e.1 e.2.1 = true := by unfold entB at h; rw [Bool.and_eq_true] at h; exact h.1
 have g : (0 ≤ e.2.2.2.2.1 ∧ e.2.2.2.2.1 ≤ 3) ∨ e.2.2.2.2.1 = 5 := by
  unfold entB at h;rw [Bool.and_eq_true] at h;have q := h.2;cases m : e.2.2.1
  ·rw [m] at q;simp only [Bool.false_eq_true, if_false, restB, Bool.and_eq_true, decide_eq_true_eq] at q;omega
  ·rw [m] at q;simp only [if_true, busyB, fromB, betw, Bool.and_eq_true, decide_eq_true_eq] at q;have k := q.2.2.1;split at k
   ·simp only [decide_eq_true_eq] at k;omega
   ·simp only [Bool.and_eq_true, decide_eq_true_eq] at k;omega
 unfold entIn holdE;rw [if_pos h];have p : (hoI e.1 e.2.1).all (coreIn c) = (decide (e.1 < c) && decide (e.2.1 < 2 ^ c.toNat)) := by
  simp only [whoB, betw, Bool.and_eq_true, decide_eq_true_eq, Bool.not_eq_true', Bool.and_eq_false_iff, decide_eq_false_iff_not, Bool.not_eq_false'] at l;obtain ⟨w1, w2, f⟩ := l;unfold hoI;by_cases i : 0 ≤ e.1
  ·have j : e.2.1 = 0 := by
     rcases f with f | f
     ·exact absurd i f
     ·exact f
   rw [if_pos i, j];have o : (0 : Int) < 2 ^ c.toNat := Int.pow_pos (by decide);rw [decide_eq_true o, Bool.and_true];simp only [List.all_cons, List.all_nil, Bool.and_true, coreIn, betw];refine bool_iff ?_;simp only [decide_eq_true_eq];omega
  ·rw [if_neg i, decide_eq_true (show e.1 < c by omega), Bool.true_and];obtain ⟨s, j⟩ : ∃ s : Fin 16, (s.val : Int) = e.2.1 := ⟨⟨e.2.1.toNat, by omega⟩, by simp; omega⟩;obtain ⟨n, r⟩ : ∃ n : Fin 5, (n.val : Int) = c := ⟨⟨c.toNat, by omega⟩, by simp; omega⟩;have q := shar_fin n s;rw [j, r] at q;rw [show c.toNat = n.val from by omega];exact q
 rw [p];unfold entS agentIn coreIn;refine bool_iff ?_;simp only [Bool.and_eq_true, Bool.or_eq_true, decide_eq_true_eq, Bool.not_eq_true', Bool.and_eq_false_iff, decide_eq_false_iff_not, betw];constructor
 ·rintro ⟨a, b, d⟩;refine ⟨?_, a, b⟩;rcases g with g | g
  ·exact .inr (.inr (by omega))
  ·exact .inr (.inl g)
 ·rintro ⟨a, b, d⟩;exact ⟨b, d, by omega⟩
theorem msg_eq {c l : Int} {m : MsgD} (h1 : 1 ≤ c) (h4 : c ≤ 4) (h : msgB m = true) : msgS c l m = msgIn c l m := by
 have hm : (0 ≤ m.2.1 ∧ m.2.1 ≤ 5) ∧ (0 ≤ m.2.2.1 ∧ m.2.2.1 ≤ 5) ∧ (0 ≤ m.2.2.2.2.1 ∧ m.2.2.2.2.1 ≤ 15) := by
  simp only [msgB, endsB, betw, Bool.and_eq_true, decide_eq_true_eq] at h;omega
 unfold msgS msgIn agentIn coreIn lineIn;refine bool_iff ?_;simp only [Bool.and_eq_true, Bool.or_eq_true, decide_eq_true_eq, Bool.not_eq_true', Bool.and_eq_false_iff, decide_eq_false_iff_not, betw];omega
theorem way_in {l : Int} {u : WayD} (h1 : 1 ≤ l) (h : clearB u = true ∨ (0 ≤ u.1 ∧ u.1 ≤ 15)) : decide (u.1 < l) = wayIn l u := by
 have hu : -1 ≤ u.1 := by
  rcases h with h | h
  ·simp only [clearB, decide_eq_true_eq] at h;omega
  ·omega
 unfold wayIn lineIn;refine bool_iff ?_;simp only [Bool.or_eq_true, decide_eq_true_eq, betw];omega
theorem core_eq {c s y l : Int} {u : CoreD} (h1 : 1 ≤ l) : (coreS c s y l u && linesIn l u) = coreFit c s y l u := by
 unfold coreS coreFit;cases a : coreB u
 ·simp
 ·have b := core_ok a;have g : rowsIn l u = waysIn l u.1 := by
   unfold rowsIn waysIn;refine all_congr fun row hrow => all_congr fun v hv => ?_;obtain ⟨i, f⟩ := List.getElem?_of_mem hrow;obtain ⟨j, n⟩ := List.getElem?_of_mem hv;obtain ⟨-, -, m, -, o⟩ := b;refine way_in h1 ?_;rcases (o i row f).2.2.1 j v n with q | ⟨q, -⟩
   ·exact .inl q
   ·simp only [fullB, decide_eq_true_eq] at q;exact .inr q.1
  have k : decide (u.2.2.2.2.1.1 < l) = wayIn l u.2.2.2.2.1 := by
   refine way_in h1 ?_;have q : restC u = true := by
    unfold coreB at a;simp only [Bool.and_eq_true] at a;exact a.2.2.2.2.2.2.2
   unfold restC at q;split at q
   ·simp only [Bool.and_eq_true, Bool.or_eq_true, goneB, fullB, betw, decide_eq_true_eq] at q;rcases q.1 with d | d
    ·exact .inr (by omega)
    ·exact .inr d.1
   ·exact .inl q
  unfold linesIn cacheIn;rw [g, k];cases decide ((u.1.1.length : Int) = s) <;> cases decide ((waysN u.1 : Int) = y) <;> cases decide (progI c s y l u.2.1 = 0) <;> cases waysIn l u.1 <;> cases wayIn l u.2.2.2.2.1 <;> rfl
theorem dma_eq {c s y l : Int} {x : DmaD} (hc : codeI c s y l = 0) : (dmaS x && decide (descI c s y l x.1 = 0)) = (dmaB x && decide (descI c s y l x.1 = 0)) := by
 unfold dmaS;by_cases b : descI c s y l x.1 = 0
 ·have hl := (code_cores hc).2;have q : x.1.all line15 = true := by
   unfold descI at b;rw [if_pos hc] at b;split at b
   ·split at b
    ·split at b
     ·rename_i a
      refine List.all_eq_true.2 fun u hu => ?_;have := List.all_eq_true.1 a u hu;simp only [dlnOk, betw, decide_eq_true_eq] at this;simp only [line15, betw, decide_eq_true_eq];omega
     ·cases b
    ·cases b
   ·cases b
  rw [q, Bool.and_true]
 ·rw [decide_eq_false b, Bool.and_false, Bool.and_false]
noncomputable def fabI (x : FabricD) : Bool := decide (codeI x.1.1 x.1.2.1 x.1.2.2.1 x.1.2.2.2 = 0) && (houseFit x && (coresFit x && (dmaFit x && (netFit x && (decide (x.2.2.2.2.2.length ≤ 200) && x.2.2.2.2.2.all evB)))))
theorem fab_eq (x : FabricD) : fabS x = fabI x := by
 unfold fabS fabI headF;by_cases b : codeI x.1.1 x.1.2.1 x.1.2.2.1 x.1.2.2.2 = 0
 ·obtain ⟨⟨c, d⟩, i, f⟩ := code_cores b;rw [decide_eq_true b];have e1 : (houseB x.2.1 && x.2.1.2.all (entS x.1.1)) = (houseB x.2.1 && x.2.1.2.all (entIn x.1.1)) := by
   cases a : houseB x.2.1
   ·rfl
   ·have q : ∀ e ∈ x.2.1.2, entB e = true := by
      unfold houseB at a;simp only [Bool.and_eq_true] at a;exact List.all_eq_true.1 a.2.2
    rw [all_congr fun e he => ent_eq c d (q e he)]
  have e2 : (netB x.2.2.2.2.1 && x.2.2.2.2.1.all (msgS x.1.1 x.1.2.2.2)) = (netB x.2.2.2.2.1 && x.2.2.2.2.1.all (msgIn x.1.1 x.1.2.2.2)) := by
   cases a : netB x.2.2.2.2.1
   ·rfl
   ·have q : ∀ m ∈ x.2.2.2.2.1, msgB m = true := by
      unfold netB at a;rw [Bool.and_eq_true] at a;exact List.all_eq_true.1 a.2
    rw [all_congr fun m hm => msg_eq c d (q m hm)]
  have g : (x.2.2.1.all (coreS x.1.1 x.1.2.1 x.1.2.2.1 x.1.2.2.2) && x.2.2.1.all (linesIn x.1.2.2.2)) = x.2.2.1.all (coreFit x.1.1 x.1.2.1 x.1.2.2.1 x.1.2.2.2) := by
   rw [all_both];exact all_congr fun u _ => core_eq i
  have e4 := dma_eq (x := x.2.2.2.1) b;unfold houseFit coresFit dmaFit netFit;generalize houseB x.2.1 = h0 at *;generalize x.2.1.2.all (entS x.1.1) = h1 at *;generalize x.2.1.2.all (entIn x.1.1) = h2 at *;generalize netB x.2.2.2.2.1 = n0 at *;generalize x.2.2.2.2.1.all (msgS x.1.1 x.1.2.2.2) = n1 at *;generalize x.2.2.2.2.1.all (msgIn x.1.1 x.1.2.2.2) = n2 at *;generalize x.2.2.1.all (coreS x.1.1 x.1.2.1 x.1.2.2.1 x.1.2.2.2) = k1 at *;generalize x.2.2.1.all (linesIn x.1.2.2.2) = k2 at *;generalize x.2.2.1.all (coreFit x.1.1 x.1.2.1 x.1.2.2.1 x.1.2.2.2) = k3 at *;generalize dmaS x.2.2.2.1 = d1 at *;generalize dmaB x.2.2.2.1 = d2 at *;generalize decide (descI x.1.1 x.1.2.1 x.1.2.2.1 x.1.2.2.2 x.2.2.2.1.1 = 0) = d3 at *;generalize decide ((x.2.1.2.length : Int) = x.1.2.2.2) = z1;generalize decide ((x.2.2.1.length : Int) = x.1.1) = z2;generalize decide (x.2.2.2.2.2.length ≤ 200) = z3;generalize x.2.2.2.2.2.all evB = z4;subst g;cases h0 <;> cases n0 <;> cases d3 <;> cases z1 <;> cases z2 <;> cases z3 <;> cases z4 <;> simp_all
  cases h2 <;> cases n2 <;> cases k1 <;> cases k2 <;> cases d2 <;> rfl
 ·rw [decide_eq_false b];simp
def idleC (u : CoreD) : Bool := !decide (u.2.2.1 < (u.2.1.length : Int))
def doneB (x : FabricD) : Bool := x.2.2.1.all idleC && !decide (x.2.2.2.1.2.1 < (x.2.2.2.1.1.length : Int))
noncomputable def finI (x : FabricD) : Bool := fabI x && (doneB x && decide (x.2.2.2.2.1.length = 0))
theorem prog_len {c s y l : Int} {p : List OpD} (h : progI c s y l p = 0) : p.length ≤ 30 := by
 unfold progI at h;split at h
 ·split at h
  ·assumption
  ·cases h
 ·cases h
theorem fab_facts {x : FabricD} (h : fabI x = true) : (1 ≤ x.1.1 ∧ x.1.1 ≤ 4) ∧ (x.2.2.1.length : Int) = x.1.1 ∧ x.2.2.2.1.1.length ≤ 30 ∧ (0 ≤ x.2.2.2.1.2.1 ∧ x.2.2.2.1.2.1 ≤ (x.2.2.2.1.1.length : Int)) ∧ ∀ u ∈ x.2.2.1, u.2.1.length ≤ 30 := by
 unfold fabI at h;simp only [Bool.and_eq_true, decide_eq_true_eq] at h;obtain ⟨c, -, a, b, -, -, -⟩ := h;unfold coresFit at a;simp only [Bool.and_eq_true, decide_eq_true_eq] at a;unfold dmaFit dmaB descsB placeB1 at b;simp only [Bool.and_eq_true, decide_eq_true_eq, betw] at b;refine ⟨(code_cores c).1, a.1, b.1.1.1, b.1.2.1, fun u hu => ?_⟩;have q := List.all_eq_true.1 a.2 u hu;unfold coreFit at q;simp only [Bool.and_eq_true, decide_eq_true_eq] at q;exact prog_len q.2.1
theorem fin_eq {x : FabricD} (h : fabI x = true) : (x.2.2.1.all idleC && (decide (x.2.2.2.2.1.length = 0) && decide (x.2.2.2.1.2.1 = (x.2.2.2.1.1.length : Int)))) = finI x := by
 obtain ⟨-, -, -, hd, -⟩ := fab_facts h;have e : decide (x.2.2.2.1.2.1 = (x.2.2.2.1.1.length : Int)) = !decide (x.2.2.2.1.2.1 < (x.2.2.2.1.1.length : Int)) := by
  by_cases q : x.2.2.2.1.2.1 < (x.2.2.2.1.1.length : Int)
  ·rw [decide_eq_true q, decide_eq_false (by omega)]; rfl
  ·rw [decide_eq_false q, decide_eq_true (by omega)]; rfl
 unfold finI doneB;rw [h, e];cases x.2.2.1.all idleC <;> cases decide (x.2.2.2.2.1.length = 0) <;> cases decide (x.2.2.2.1.2.1 < (x.2.2.2.1.1.length : Int)) <;> rfl
theorem event_shape1 {w : World} {cs : List Value} {u : EventD} (h : eventR.rd w cs u) : ∃ (ea : Option Addr) (ec : Nat), cs = [nI u.1, nI u.2.1.1, nI u.2.1.2.1, nI u.2.1.2.2.1, nI u.2.1.2.2.2, nI u.2.2.1, nI u.2.2.2.1, sL ea u.2.2.2.2.1.length ec, nI u.2.2.2.2.2] ∧ u.2.2.2.2.1.length ≤ ec ∧ ec ≤ maxLen ∧ SlRd intR w ea u.2.2.2.2.1 := by
 obtain ⟨v1, v2, v3, v4, v7, rfl, -, d, -, -, ⟨a, c, e, g, f, q⟩, -⟩ := event_rd h;obtain ⟨b, -⟩ := op_rd4 d;simp only [List.cons.injEq, and_true] at b e;obtain ⟨rfl, rfl, rfl, rfl⟩ := b;obtain rfl := e;exact ⟨a, c, rfl, g, f, q⟩
theorem event_shape0 {w : World} {cs : List Value} {u : EventD} (h : eventR.rd w cs u) : ∃ (ea : Option Addr) (ec : Nat), cs = [nI u.1, nI u.2.1.1, nI u.2.1.2.1, nI u.2.1.2.2.1, nI u.2.1.2.2.2, nI u.2.2.1, nI u.2.2.2.1, sL ea u.2.2.2.2.1.length ec, nI u.2.2.2.2.2] := by
 obtain ⟨a, c, e, -⟩ := event_shape1 h;exact ⟨a, c, e⟩
theorem idxFnEvent {p : EventD → Bool} {g : Nat} (a : Option Addr) (xs : List EventD) (cap : Nat) (w : World) (h : SlRd eventR w a xs) (hm : xs.length ≤ maxLen) (HP : ∀ (x : EventD) (r : List Value) (W : World), x ∈ xs → Below w.heap.size w W → eventR.rd W r x → Calls Tryz.prog 214 #[aggV r, .pointer (some ⟨g, 0, none⟩)] W fun e w' => e = .returned (.bool (!p x)) ∧ Below W.heap.size W w') :
    Calls Tryz.prog 246 #[sL a xs.length cap, .func (.func 214) #[] #[.pointer (some ⟨g, 0, none⟩)]] w fun e w' => e = .returned (nI (badP p xs)) ∧ Below w.heap.size w w' := by
 have O : xs.length ≤ 9223372036854775807 := hm;have T : Hid (∀ W, Below w.heap.size w W → SlRd eventR W a xs) := fun W m => slrd_keep h fun k L => m.block k L;have y : Hid _ := HP;clear h hm HP;go_enter Tryz.func246, Tryz.ntmps246;go_wp2;go_loopw [8] (fun i wr => ∃ k : Nat, k ≤ xs.length ∧ i = nI k ∧ (∀ j v, j < k → xs[j]? = some v → p v = true) ∧ Below w.heap.size w wr) (fun i _ => xs.length - (intOf i).toNat)
 case atStart => exact ⟨0, Nat.zero_le _, rfl, fun j v hj => by omega, Below.refl _ _⟩
 case round =>
  obtain ⟨k, L, rfl, l, f⟩ := hrel;by_cases z : k < xs.length
  ·have N : (k : Int) < (xs.length : Int) := by omega
   obtain ⟨x, q⟩ : ∃ x, xs[k]? = some x := ⟨_, List.getElem?_eq_getElem z⟩;obtain ⟨b, U, r, rfl, c, d⟩ := slrd_at (T.out _ f) q;have o := y.out x r wr (List.mem_of_getElem? q) f c;obtain ⟨A, I, rfl⟩ := event_shape0 c;rw [show aggV [nI x.1, nI x.2.1.1, nI x.2.1.2.1, nI x.2.1.2.2.1, nI x.2.1.2.2.2, nI x.2.2.1, nI x.2.2.2.1, sL A x.2.2.2.2.1.length I, nI x.2.2.2.2.2] = .agg #[nI x.1, nI x.2.1.1, nI x.2.1.2.1, nI x.2.1.2.2.1, nI x.2.1.2.2.2, nI x.2.2.1, nI x.2.2.2.1, sL A x.2.2.2.2.1.length I, nI x.2.2.2.2.2] from rfl] at o;obtain ⟨F, J, E, G, B, K, M, D, C⟩ := cellsAt9 d rfl;have H : Hid (xs[k]? = some x) := q;clear q d c;cases m : p x
   ·have s : Hid (badP p xs = k) := badP_at H.out m l;rw [m] at o;go_wp2_with fail
    refine o.mono ?_;rintro e R ⟨rfl, n⟩;replace f := below_step f n;clear n F J E G B K M D C;go_wp2;go_ret
    exact ⟨ret_int s.out.symm, f⟩
   ·rw [m] at o;go_wp2_with fail
    refine o.mono ?_;rintro e R ⟨rfl, n⟩;replace f := below_step f n;clear n F J E G B K M D C;go_wp2;go_roundw
    case rel =>
     refine ⟨k + 1, by omega, by go_num, fun j v hj hv => ?_, f⟩;by_cases S : j < k
     ·exact l j v S hv
     ·have : j = k := by omega
      subst this;rw [H.out] at hv;cases hv;exact m
    case measure => simp [intOf]; omega
  ·have s : Hid (badP p xs = -1) := badP_no fun j v hv => l j v (by have := (List.getElem?_eq_some_iff.1 hv).1; omega) hv;go_wp2;go_ret
   exact ⟨ret_int s.out.symm, f⟩
theorem conFnEvent {p : EventD → Bool} {g : Nat} (a : Option Addr) (xs : List EventD) (cap : Nat) (w : World) (h : SlRd eventR w a xs) (hm : xs.length ≤ maxLen) (HP : ∀ (x : EventD) (cs : List Value) (W : World), x ∈ xs → Below w.heap.size w W → eventR.rd W cs x → Calls Tryz.prog 214 #[aggV cs, .pointer (some ⟨g, 0, none⟩)] W fun e w' => e = .returned (.bool (!p x)) ∧ Below W.heap.size W w') :
    Calls Tryz.prog 213 #[sL a xs.length cap, .func (.func 214) #[] #[.pointer (some ⟨g, 0, none⟩)]] w fun e w' => e = .returned (.bool (!xs.all p)) ∧ Below w.heap.size w w' := by
 have f := idxFnEvent a xs cap w h hm HP;have b := badP_all p xs;clear h hm HP;generalize badP p xs = q at f b;generalize xs.all p = y at b ⊢;subst b;by_cases i : q < 0
 ·have c : ¬ (0 ≤ q) := by omega
  go_enter Tryz.func213, Tryz.ntmps213;go_wp2_with fail
  refine f.mono ?_;rintro e j ⟨rfl, d⟩;go_wp2;go_ret
  exact ⟨by simp [i], d⟩
 ·have c : 0 ≤ q := by omega
  go_enter Tryz.func213, Tryz.ntmps213;go_wp2_with fail
  refine f.mono ?_;rintro e j ⟨rfl, d⟩;go_wp2;go_ret
  exact ⟨by simp [i], d⟩
theorem closFitEvent {q : Bool} {g : Nat} (x : EventD) (cs : List Value) (w : World) (h : eventR.rd w cs x) (hg : w.heap[g]? = some (.cells #[.func (.func 155) #[] #[]] 132 (0, 0)))
    (HF : ∀ W, Below w.heap.size w W → Calls Tryz.prog 155 #[aggV cs] W fun e w' => e = .returned (.bool q) ∧ Below W.heap.size W w') :
    Calls Tryz.prog 214 #[aggV cs, .pointer (some ⟨g, 0, none⟩)] w fun e w' => e = .returned (.bool (!q)) ∧ Below w.heap.size w w' := by
 obtain ⟨a, b, rfl⟩ := event_shape0 h;rw [show aggV [nI x.1, nI x.2.1.1, nI x.2.1.2.1, nI x.2.1.2.2.1, nI x.2.1.2.2.2, nI x.2.2.1, nI x.2.2.2.1, sL a x.2.2.2.2.1.length b, nI x.2.2.2.2.2] = .agg #[nI x.1, nI x.2.1.1, nI x.2.1.2.1, nI x.2.1.2.2.1, nI x.2.1.2.2.2, nI x.2.2.1, nI x.2.2.2.1, sL a x.2.2.2.2.1.length b, nI x.2.2.2.2.2] from rfl] at HF ⊢;have B := box_below w (.cells #[nI x.1, nI x.2.1.1, nI x.2.1.2.1, nI x.2.1.2.2.1, nI x.2.1.2.2.2, nI x.2.2.1, nI x.2.2.2.1, sL a x.2.2.2.2.1.length b, nI x.2.2.2.2.2] 135);have G := row_keep B hg;have c : Hid _ := HF;clear h hg HF;go_enter Tryz.func214, Tryz.ntmps214;go_upto_region 1 with fail
 have X := heap_at w (.cells #[nI x.1, nI x.2.1.1, nI x.2.1.2.1, nI x.2.1.2.2.1, nI x.2.1.2.2.2, nI x.2.2.1, nI x.2.2.2.1, sL a x.2.2.2.2.1.length b, nI x.2.2.2.2.2] 135);generalize w.alloc (.cells #[nI x.1, nI x.2.1.1, nI x.2.1.2.1, nI x.2.1.2.2.1, nI x.2.1.2.2.2, nI x.2.2.1, nI x.2.2.2.1, sL a x.2.2.2.2.1.length b, nI x.2.2.2.2.2] 135) = W0 at B G X ⊢;have j : W0.cell? ⟨g, 0, none⟩ = some (.func (.func 155) #[] #[]) := by rw [cell_of_row W0 g 0 _ _ (0, 0) G]; rfl
 obtain ⟨r, n, o, k, p, f, l, m, i⟩ := cells_core X;clear G X;go_wp2_with fail
 refine (c.out _ B).mono ?_;rintro e w1 ⟨rfl, d⟩;replace B := below_step B d;clear j d r n o k p f l m i;go_wp2;go_ret
 exact ⟨rfl, B⟩
theorem allFitEvent {p : EventD → Bool} (a : Option Addr) (xs : List EventD) (cap : Nat) (w : World) (h : SlRd eventR w a xs) (hm : xs.length ≤ maxLen)
    (HF : ∀ (x : EventD) (cs : List Value) (W : World), x ∈ xs → Below w.heap.size w W → eventR.rd W cs x → Calls Tryz.prog 155 #[aggV cs] W fun e w' => e = .returned (.bool (p x)) ∧ Below W.heap.size W w') :
    Calls Tryz.prog 154 #[sL a xs.length cap, .func (.func 155) #[] #[]] w fun e w' => e = .returned (.bool (xs.all p)) ∧ Below w.heap.size w w' := by
 have B := box_below w (.cells #[.func (.func 155) #[] #[]] 132);have G := heap_at w (.cells #[.func (.func 155) #[] #[]] 132);have c := conFnEvent (p := p) (g := w.heap.size) a xs cap (w.alloc (.cells #[.func (.func 155) #[] #[]] 132)) (slrd_next h B) hm (fun x cs W hx hb hr => closFitEvent x cs W hr (row_keep hb G) (fun W2 hb2 => HF x cs W2 hx (below_step (below_step B hb) hb2) (rd_next hr hb2)));clear h hm HF G;generalize xs.all p = y at c ⊢;go_enter Tryz.func154, Tryz.ntmps154;go_wp2_with fail
 refine c.mono ?_;rintro e w1 ⟨rfl, b⟩;replace B := below_step B b;clear b;go_wp2;go_ret
 exact ⟨by simp, B⟩
end Go.Proofs.YtdamokokcdcedaaGreatDoor
