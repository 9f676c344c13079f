import Derived.Test.YtiiipclglngdhaaGreatDoorQ00Box
import Derived.Test.YtiiipclglngdhaaGreatDoorQ40DmaOkS
import Derived.Test.YtiiipclglngdhaaGreatDoorQ41EventS
import Derived.Test.YtiiipclglngdhaaGreatDoorQ37FabParts
import Derived.Test.YtiiipclglngdhaaGreatDoorQ31AllFit
import Derived.Test.YtiiipclglngdhaaGreatDoorQ34EventsL
namespace Go.Proofs.YtiiipclglngdhaaGreatDoor
set_option maxHeartbeats 2000000
set_option maxRecDepth 20000
open Go.ChangeShapes Go.WideShapes Go.ChangeAt Go.RowKit
set_option linter.unusedVariables false
def headF (x : FabricD) : Bool := decide (codeI x.1.1 x.1.2.1 x.1.2.2.1 x.1.2.2.2 = 0) && (houseB x.2.1 && (decide ((x.2.1.2.length : Int) = x.1.2.2.2) && (decide ((x.2.2.1.length : Int) = x.1.1) && (dmaS x.2.2.2.1 && (decide (descI x.1.1 x.1.2.1 x.1.2.2.1 x.1.2.2.2 x.2.2.2.1.1 = 0) && (netB x.2.2.2.2.1 && decide (x.2.2.2.2.2.length ≤ 200)))))))
noncomputable def coreS (c s y l : Int) (u : CoreD) : Bool := coreB u && (decide ((u.1.1.length : Int) = s) && (decide ((waysN u.1 : Int) = y) && decide (progI c s y l u.2.1 = 0)))
def entS (c : Int) (e : EntryD) : Bool := decide (e.1 < c) && (decide (e.2.1 < 2 ^ c.toNat) && !(decide (e.2.2.2.2.1 < 4) && decide (c ≤ e.2.2.2.2.1)))
def msgS (c l : Int) (m : MsgD) : Bool := decide (m.2.2.2.2.1 < l) && (!(decide (m.2.1 < 4) && decide (c ≤ m.2.1)) && !(decide (m.2.2.1 < 4) && decide (c ≤ m.2.2.1)))
noncomputable def fabS (x : FabricD) : Bool := headF x && (x.2.2.1.all (coreS x.1.1 x.1.2.1 x.1.2.2.1 x.1.2.2.2) && (x.2.2.1.all (linesIn x.1.2.2.2) && (x.2.1.2.all (entS x.1.1) && (x.2.2.2.2.1.all (msgS x.1.1 x.1.2.2.2) && x.2.2.2.2.2.all evB))))
theorem all_congr {α : Type} {p q : α → Bool} {xs : List α} (h : ∀ a ∈ xs, p a = q a) : xs.all p = xs.all q := by
 induction xs with
 | nil => rfl
 | cons a xs ih => rw [List.all_cons, List.all_cons, h a (List.mem_cons_self ..), ih fun b hb => h b (List.mem_cons_of_mem _ hb)]
theorem all_both {α : Type} {p q : α → Bool} {xs : List α} : (xs.all p && xs.all q) = xs.all fun a => p a && q a := by
 induction xs with
 | nil => rfl
 | cons a xs ih =>
  rw [List.all_cons, List.all_cons, List.all_cons, ← ih]
  cases p a <;> cases q a <;> cases xs.all p <;> cases xs.all q <;> rfl
set_option linter.unusedSimpArgs false
theorem shar_fin : ∀ c : Fin 5, ∀ s : Fin 16, (mems (s.val : Int) 8).all (fun k => betw k 0 ((c.val : Int) - 1)) = decide ((s.val : Int) < 2 ^ c.val) := by decide +kernel
theorem bool_iff {a b : Bool} (h : a = true ↔ b = true) : a = b := by
 cases a <;> cases b <;> simp_all
theorem ent_eq {c : Int} {e : EntryD} (h1 : 1 ≤ c) (h4 : c ≤ 4) (h : entB e = true) : entS c e = entIn c e := by
 have hw : whoB e.1 e.2.1 = true := by unfold entB at h; rw [Bool.and_eq_true] at h; exact h.1
 have hf : (0 ≤ e.2.2.2.2.1 ∧ e.2.2.2.2.1 ≤ 3) ∨ e.2.2.2.2.1 = 5 := by
  unfold entB at h
  rw [Bool.and_eq_true] at h
  have q := h.2
  cases hb : e.2.2.1
  ·rw [hb] at q
   simp only [Bool.false_eq_true, if_false, restB, Bool.and_eq_true, decide_eq_true_eq] at q
   omega
  ·rw [hb] at q
   simp only [if_true, busyB, fromB, betw, Bool.and_eq_true, decide_eq_true_eq] at q
   have q3 := q.2.2.1
   split at q3
   ·simp only [decide_eq_true_eq] at q3
    omega
   ·simp only [Bool.and_eq_true, decide_eq_true_eq] at q3
    omega
 unfold entIn holdE
 rw [if_pos h]
 have hh : (hoI e.1 e.2.1).all (coreIn c) = (decide (e.1 < c) && decide (e.2.1 < 2 ^ c.toNat)) := by
  simp only [whoB, betw, Bool.and_eq_true, decide_eq_true_eq, Bool.not_eq_true', Bool.and_eq_false_iff, decide_eq_false_iff_not, Bool.not_eq_false'] at hw
  obtain ⟨w1, w2, w3⟩ := hw
  unfold hoI
  by_cases ho : 0 ≤ e.1
  ·have hs : e.2.1 = 0 := by
     rcases w3 with w3 | w3
     ·exact absurd ho w3
     ·exact w3
   rw [if_pos ho, hs]
   have hp : (0 : Int) < 2 ^ c.toNat := Int.pow_pos (by decide)
   rw [decide_eq_true hp, Bool.and_true]
   simp only [List.all_cons, List.all_nil, Bool.and_true, coreIn, betw]
   refine bool_iff ?_
   simp only [decide_eq_true_eq]
   omega
  ·rw [if_neg ho, decide_eq_true (show e.1 < c by omega), Bool.true_and]
   obtain ⟨s, hs⟩ : ∃ s : Fin 16, (s.val : Int) = e.2.1 := ⟨⟨e.2.1.toNat, by omega⟩, by simp; omega⟩
   obtain ⟨n, hn⟩ : ∃ n : Fin 5, (n.val : Int) = c := ⟨⟨c.toNat, by omega⟩, by simp; omega⟩
   have q := shar_fin n s
   rw [hs, hn] at q
   rw [show c.toNat = n.val from by omega]
   exact q
 rw [hh]
 unfold entS agentIn coreIn
 refine bool_iff ?_
 simp only [Bool.and_eq_true, Bool.or_eq_true, decide_eq_true_eq, Bool.not_eq_true', Bool.and_eq_false_iff, decide_eq_false_iff_not, betw]
 constructor
 ·rintro ⟨a, b, d⟩
  refine ⟨?_, a, b⟩
  rcases hf with hf | hf
  ·exact .inr (.inr (by omega))
  ·exact .inr (.inl hf)
 ·rintro ⟨a, b, d⟩
  exact ⟨b, d, by omega⟩
theorem msg_eq {c l : Int} {m : MsgD} (h1 : 1 ≤ c) (h4 : c ≤ 4) (h : msgB m = true) : msgS c l m = msgIn c l m := by
 have hm : (0 ≤ m.2.1 ∧ m.2.1 ≤ 5) ∧ (0 ≤ m.2.2.1 ∧ m.2.2.1 ≤ 5) ∧ (0 ≤ m.2.2.2.2.1 ∧ m.2.2.2.2.1 ≤ 15) := by
  simp only [msgB, endsB, betw, Bool.and_eq_true, decide_eq_true_eq] at h
  omega
 unfold msgS msgIn agentIn coreIn lineIn
 refine bool_iff ?_
 simp only [Bool.and_eq_true, Bool.or_eq_true, decide_eq_true_eq, Bool.not_eq_true', Bool.and_eq_false_iff, decide_eq_false_iff_not, betw]
 omega
theorem way_in {l : Int} {u : WayD} (h1 : 1 ≤ l) (h : clearB u = true ∨ (0 ≤ u.1 ∧ u.1 ≤ 15)) : decide (u.1 < l) = wayIn l u := by
 have hu : -1 ≤ u.1 := by
  rcases h with h | h
  ·simp only [clearB, decide_eq_true_eq] at h
   omega
  ·omega
 unfold wayIn lineIn
 refine bool_iff ?_
 simp only [Bool.or_eq_true, decide_eq_true_eq, betw]
 omega
theorem core_eq {c s y l : Int} {u : CoreD} (h1 : 1 ≤ l) : (coreS c s y l u && linesIn l u) = coreFit c s y l u := by
 unfold coreS coreFit
 cases hb : coreB u
 ·simp
 ·have hok := core_ok hb
  have hr : rowsIn l u = waysIn l u.1 := by
   unfold rowsIn waysIn
   refine all_congr fun row hrow => all_congr fun v hv => ?_
   obtain ⟨i, hi⟩ := List.getElem?_of_mem hrow
   obtain ⟨j, hj⟩ := List.getElem?_of_mem hv
   obtain ⟨-, -, m, -, h3⟩ := hok
   refine way_in h1 ?_
   rcases (h3 i row hi).2.2.1 j v hj with q | ⟨q, -⟩
   ·exact .inl q
   ·simp only [fullB, decide_eq_true_eq] at q
    exact .inr q.1
  have hd : decide (u.2.2.2.2.1.1 < l) = wayIn l u.2.2.2.2.1 := by
   refine way_in h1 ?_
   have q : restC u = true := by
    unfold coreB at hb
    simp only [Bool.and_eq_true] at hb
    exact hb.2.2.2.2.2.2.2
   unfold restC at q
   split at q
   ·simp only [Bool.and_eq_true, Bool.or_eq_true, goneB, fullB, betw, decide_eq_true_eq] at q
    rcases q.1 with q1 | q1
    ·exact .inr (by omega)
    ·exact .inr q1.1
   ·exact .inl q
  unfold linesIn cacheIn
  rw [hr, hd]
  cases decide ((u.1.1.length : Int) = s) <;> cases decide ((waysN u.1 : Int) = y) <;> cases decide (progI c s y l u.2.1 = 0) <;> cases waysIn l u.1 <;> cases wayIn l u.2.2.2.2.1 <;> rfl
theorem dma_eq {c s y l : Int} {x : DmaD} (hc : codeI c s y l = 0) : (dmaS x && decide (descI c s y l x.1 = 0)) = (dmaB x && decide (descI c s y l x.1 = 0)) := by
 unfold dmaS
 by_cases hd : descI c s y l x.1 = 0
 ·have hl := (code_cores hc).2
  have q : x.1.all line15 = true := by
   unfold descI at hd
   rw [if_pos hc] at hd
   split at hd
   ·split at hd
    ·split at hd
     ·rename_i a
      refine List.all_eq_true.2 fun u hu => ?_
      have := List.all_eq_true.1 a u hu
      simp only [dlnOk, betw, decide_eq_true_eq] at this
      simp only [line15, betw, decide_eq_true_eq]
      omega
     ·cases hd
    ·cases hd
   ·cases hd
  rw [q, Bool.and_true]
 ·rw [decide_eq_false hd, Bool.and_false, Bool.and_false]
noncomputable def fabI (x : FabricD) : Bool := decide (codeI x.1.1 x.1.2.1 x.1.2.2.1 x.1.2.2.2 = 0) && (houseFit x && (coresFit x && (dmaFit x && (netFit x && (decide (x.2.2.2.2.2.length ≤ 200) && x.2.2.2.2.2.all evB)))))
theorem fab_eq (x : FabricD) : fabS x = fabI x := by
 unfold fabS fabI headF
 by_cases hc : codeI x.1.1 x.1.2.1 x.1.2.2.1 x.1.2.2.2 = 0
 ·obtain ⟨⟨c1, c4⟩, l1, l16⟩ := code_cores hc
  rw [decide_eq_true hc]
  have e1 : (houseB x.2.1 && x.2.1.2.all (entS x.1.1)) = (houseB x.2.1 && x.2.1.2.all (entIn x.1.1)) := by
   cases hb : houseB x.2.1
   ·rfl
   ·have q : ∀ e ∈ x.2.1.2, entB e = true := by
      unfold houseB at hb
      simp only [Bool.and_eq_true] at hb
      exact List.all_eq_true.1 hb.2.2
    rw [all_congr fun e he => ent_eq c1 c4 (q e he)]
  have e2 : (netB x.2.2.2.2.1 && x.2.2.2.2.1.all (msgS x.1.1 x.1.2.2.2)) = (netB x.2.2.2.2.1 && x.2.2.2.2.1.all (msgIn x.1.1 x.1.2.2.2)) := by
   cases hb : netB x.2.2.2.2.1
   ·rfl
   ·have q : ∀ m ∈ x.2.2.2.2.1, msgB m = true := by
      unfold netB at hb
      rw [Bool.and_eq_true] at hb
      exact List.all_eq_true.1 hb.2
    rw [all_congr fun m hm => msg_eq c1 c4 (q m hm)]
  have e3 : (x.2.2.1.all (coreS x.1.1 x.1.2.1 x.1.2.2.1 x.1.2.2.2) && x.2.2.1.all (linesIn x.1.2.2.2)) = x.2.2.1.all (coreFit x.1.1 x.1.2.1 x.1.2.2.1 x.1.2.2.2) := by
   rw [all_both]
   exact all_congr fun u _ => core_eq l1
  have e4 := dma_eq (x := x.2.2.2.1) hc
  unfold houseFit coresFit dmaFit netFit
  generalize houseB x.2.1 = h0 at *
  generalize x.2.1.2.all (entS x.1.1) = h1 at *
  generalize x.2.1.2.all (entIn x.1.1) = h2 at *
  generalize netB x.2.2.2.2.1 = n0 at *
  generalize x.2.2.2.2.1.all (msgS x.1.1 x.1.2.2.2) = n1 at *
  generalize x.2.2.2.2.1.all (msgIn x.1.1 x.1.2.2.2) = n2 at *
  generalize x.2.2.1.all (coreS x.1.1 x.1.2.1 x.1.2.2.1 x.1.2.2.2) = k1 at *
  generalize x.2.2.1.all (linesIn x.1.2.2.2) = k2 at *
  generalize x.2.2.1.all (coreFit x.1.1 x.1.2.1 x.1.2.2.1 x.1.2.2.2) = k3 at *
  generalize dmaS x.2.2.2.1 = d1 at *
  generalize dmaB x.2.2.2.1 = d2 at *
  generalize decide (descI x.1.1 x.1.2.1 x.1.2.2.1 x.1.2.2.2 x.2.2.2.1.1 = 0) = d3 at *
  generalize decide ((x.2.1.2.length : Int) = x.1.2.2.2) = z1
  generalize decide ((x.2.2.1.length : Int) = x.1.1) = z2
  generalize decide (x.2.2.2.2.2.length ≤ 200) = z3
  generalize x.2.2.2.2.2.all evB = z4
  subst e3
  cases h0 <;> cases n0 <;> cases d3 <;> cases z1 <;> cases z2 <;> cases z3 <;> cases z4 <;> simp_all
  cases h2 <;> cases n2 <;> cases k1 <;> cases k2 <;> cases d2 <;> rfl
 ·rw [decide_eq_false hc]
  simp
def idleC (u : CoreD) : Bool := !decide (u.2.2.1 < (u.2.1.length : Int))
def progsL (x : FabricD) : List (List OpD) := x.2.2.1.map fun u => u.2.1
noncomputable def bouI (x : FabricD) : Int := if fabI x = true then ((x.2.2.2.1.1.length + lensI (progsL x) : Nat) : Int) * (7 + 2 * x.1.1) else -1
theorem prog_len {c s y l : Int} {p : List OpD} (h : progI c s y l p = 0) : p.length ≤ 30 := by
 unfold progI at h
 split at h
 ·split at h
  ·assumption
  ·cases h
 ·cases h
theorem fab_facts {x : FabricD} (h : fabI x = true) : (1 ≤ x.1.1 ∧ x.1.1 ≤ 4) ∧ (x.2.2.1.length : Int) = x.1.1 ∧ x.2.2.2.1.1.length ≤ 30 ∧ (0 ≤ x.2.2.2.1.2.1 ∧ x.2.2.2.1.2.1 ≤ (x.2.2.2.1.1.length : Int)) ∧ ∀ u ∈ x.2.2.1, u.2.1.length ≤ 30 := by
 unfold fabI at h
 simp only [Bool.and_eq_true, decide_eq_true_eq] at h
 obtain ⟨hc, -, hk, hd, -, -, -⟩ := h
 unfold coresFit at hk
 simp only [Bool.and_eq_true, decide_eq_true_eq] at hk
 unfold dmaFit dmaB descsB placeB1 at hd
 simp only [Bool.and_eq_true, decide_eq_true_eq, betw] at hd
 refine ⟨(code_cores hc).1, hk.1, hd.1.1.1, hd.1.2.1, fun u hu => ?_⟩
 have q := List.all_eq_true.1 hk.2 u hu
 unfold coreFit at q
 simp only [Bool.and_eq_true, decide_eq_true_eq] at q
 exact prog_len q.2.1
theorem lens_le : ∀ {ps : List (List OpD)}, (∀ p ∈ ps, p.length ≤ 30) → lensI ps ≤ 30 * ps.length
 | [], _ => Nat.le_refl _
 | p :: ps, h => by
  have h1 := h p (List.mem_cons_self ..)
  have h2 := lens_le (ps := ps) fun q hq => h q (List.mem_cons_of_mem _ hq)
  have e : lensI (p :: ps) = p.length + lensI ps := by simp [lensI]
  rw [e, List.length_cons]
  omega
theorem progs_le {x : FabricD} (h : fabI x = true) : (progsL x).length ≤ 4 ∧ x.2.2.2.1.1.length + lensI (progsL x) ≤ 150 := by
 obtain ⟨⟨h1, h4⟩, hl, hd, -, hp⟩ := fab_facts h
 have e : (progsL x).length = x.2.2.1.length := by simp [progsL]
 have q : lensI (progsL x) ≤ 30 * (progsL x).length := lens_le fun p hp' => by
  unfold progsL at hp'
  obtain ⟨u, hu, rfl⟩ := List.mem_map.1 hp'
  exact hp u hu
 omega
theorem progs_at {x : FabricD} {k : Nat} {u : CoreD} (h : x.2.2.1[k]? = some u) : (progsL x)[k]? = some u.2.1 := by simp [progsL, h]
theorem bound_num {N : Nat} {c : Int} (hN : N ≤ 150) (h1 : 1 ≤ c) (h4 : c ≤ 4) : IntKind.i64.wrap ((N : Int) * IntKind.i64.wrap (7 + IntKind.i64.wrap (2 * c))) = (N : Int) * (7 + 2 * c) := by
 have e1 : IntKind.i64.wrap (2 * c) = 2 * c := by rw [IntKind.wrap_i64]; omega
 have e2 : IntKind.i64.wrap (7 + 2 * c) = 7 + 2 * c := by rw [IntKind.wrap_i64]; omega
 rw [e1, e2, IntKind.wrap_i64]
 rcases (by omega : c = 1 ∨ c = 2 ∨ c = 3 ∨ c = 4) with rfl | rfl | rfl | rfl <;> omega
theorem event_shape1 {w : World} {cs : List Value} {u : EventD} (h : eventR.rd w cs u) : ∃ (ea : Option Addr) (ec : Nat), cs = [.int .i64 u.1, .int .i64 u.2.1.1, .int .i64 u.2.1.2.1, .int .i64 u.2.1.2.2.1, .int .i64 u.2.1.2.2.2, .int .i64 u.2.2.1, .int .i64 u.2.2.2.1, .slice ea u.2.2.2.2.1.length ec, .int .i64 u.2.2.2.2.2] ∧ u.2.2.2.2.1.length ≤ ec ∧ ec ≤ maxLen ∧ SlRd intR w ea u.2.2.2.2.1 := by
 obtain ⟨v1, v2, v3, v4, v7, rfl, -, r1, -, -, ⟨a, c, e, l1, l2, q⟩, -⟩ := event_rd h
 obtain ⟨e1, -⟩ := op_rd4 r1
 simp only [List.cons.injEq, and_true] at e1 e
 obtain ⟨rfl, rfl, rfl, rfl⟩ := e1
 obtain rfl := e
 exact ⟨a, c, rfl, l1, l2, q⟩
theorem event_shape0 {w : World} {cs : List Value} {u : EventD} (h : eventR.rd w cs u) : ∃ (ea : Option Addr) (ec : Nat), cs = [.int .i64 u.1, .int .i64 u.2.1.1, .int .i64 u.2.1.2.1, .int .i64 u.2.1.2.2.1, .int .i64 u.2.1.2.2.2, .int .i64 u.2.2.1, .int .i64 u.2.2.2.1, .slice ea u.2.2.2.2.1.length ec, .int .i64 u.2.2.2.2.2] := by
 obtain ⟨a, c, e, -⟩ := event_shape1 h
 exact ⟨a, c, e⟩
theorem idxFnEvent {p : EventD → Bool} {g : Nat} (a : Option Addr) (xs : List EventD) (cap : Nat) (w : World) (h : SlRd eventR w a xs) (hm : xs.length ≤ maxLen) (HP : ∀ (x : EventD) (cs : List Value) (W : World), x ∈ xs → Below w.heap.size w W → eventR.rd W cs x → Calls Tryz.prog 155 #[aggV cs, .pointer (some ⟨g, 0, none⟩)] W fun e w' => e = .returned (.bool (!p x)) ∧ Below W.heap.size W w') :
    Calls Tryz.prog 186 #[.slice a xs.length cap, .func (.func 155) #[] #[.pointer (some ⟨g, 0, none⟩)]] w fun e w' => e = .returned (.int .i64 (badP p xs)) ∧ Below w.heap.size w w' := by
 have hm' : xs.length ≤ 9223372036854775807 := hm
 have H0 : Hid (∀ W, Below w.heap.size w W → SlRd eventR W a xs) := fun W hb => slrd_keep h fun k hk => hb.block k hk
 have HPP : Hid _ := HP
 clear h hm HP
 go_enter Tryz.func186, Tryz.ntmps186
 go_wp2
 go_loopw [8] (fun i wr => ∃ k : Nat, k ≤ xs.length ∧ i = .int .i64 k ∧ (∀ j v, j < k → xs[j]? = some v → p v = true) ∧ Below w.heap.size w wr) (fun i _ => xs.length - (intOf i).toNat)
 case atStart => exact ⟨0, Nat.zero_le _, rfl, fun j v hj => by omega, Below.refl _ _⟩
 case round =>
  obtain ⟨k, hk, rfl, hno, BB⟩ := hrel
  by_cases hlt : k < xs.length
  ·have hlt' : (k : Int) < (xs.length : Int) := by omega
   obtain ⟨x, hx⟩ : ∃ x, xs[k]? = some x := ⟨_, List.getElem?_eq_getElem hlt⟩
   obtain ⟨b, off, cs, rfl, hrdx, hcell⟩ := slrd_at (H0.out _ BB) hx
   have HC := HPP.out x cs wr (List.mem_of_getElem? hx) BB hrdx
   obtain ⟨ga, gc, rfl⟩ := event_shape0 hrdx
   rw [show aggV [.int .i64 x.1, .int .i64 x.2.1.1, .int .i64 x.2.1.2.1, .int .i64 x.2.1.2.2.1, .int .i64 x.2.1.2.2.2, .int .i64 x.2.2.1, .int .i64 x.2.2.2.1, .slice ga x.2.2.2.2.1.length gc, .int .i64 x.2.2.2.2.2] = .agg #[.int .i64 x.1, .int .i64 x.2.1.1, .int .i64 x.2.1.2.1, .int .i64 x.2.1.2.2.1, .int .i64 x.2.1.2.2.2, .int .i64 x.2.2.1, .int .i64 x.2.2.2.1, .slice ga x.2.2.2.2.1.length gc, .int .i64 x.2.2.2.2.2] from rfl] at HC
   obtain ⟨x0, x1, x2, x3, x4, x5, x6, x7, x8⟩ := cellsAt9 hcell rfl
   have HX : Hid (xs[k]? = some x) := hx
   clear hx hcell hrdx
   cases hb : p x
   ·have HR : Hid (badP p xs = k) := badP_at HX.out hb hno
    rw [hb] at HC
    go_wp2_with fail
    refine HC.mono ?_
    rintro e w2 ⟨rfl, b2⟩
    replace BB := below_step BB b2
    clear b2 x0 x1 x2 x3 x4 x5 x6 x7 x8
    go_wp2
    go_ret
    exact ⟨ret_int HR.out.symm, BB⟩
   ·rw [hb] at HC
    go_wp2_with fail
    refine HC.mono ?_
    rintro e w2 ⟨rfl, b2⟩
    replace BB := below_step BB b2
    clear b2 x0 x1 x2 x3 x4 x5 x6 x7 x8
    go_wp2
    go_roundw
    case rel =>
     refine ⟨k + 1, by omega, by go_num, fun j v hj hv => ?_, BB⟩
     by_cases he : j < k
     ·exact hno j v he hv
     ·have : j = k := by omega
      subst this
      rw [HX.out] at hv
      cases hv
      exact hb
    case measure => simp [intOf]; omega
  ·have HR : Hid (badP p xs = -1) := badP_no fun j v hv => hno j v (by have := (List.getElem?_eq_some_iff.1 hv).1; omega) hv
   go_wp2
   go_ret
   exact ⟨ret_int HR.out.symm, BB⟩
theorem conFnEvent {p : EventD → Bool} {g : Nat} (a : Option Addr) (xs : List EventD) (cap : Nat) (w : World) (h : SlRd eventR w a xs) (hm : xs.length ≤ maxLen) (HP : ∀ (x : EventD) (cs : List Value) (W : World), x ∈ xs → Below w.heap.size w W → eventR.rd W cs x → Calls Tryz.prog 155 #[aggV cs, .pointer (some ⟨g, 0, none⟩)] W fun e w' => e = .returned (.bool (!p x)) ∧ Below W.heap.size W w') :
    Calls Tryz.prog 154 #[.slice a xs.length cap, .func (.func 155) #[] #[.pointer (some ⟨g, 0, none⟩)]] w fun e w' => e = .returned (.bool (!xs.all p)) ∧ Below w.heap.size w w' := by
 have HI := idxFnEvent a xs cap w h hm HP
 have hab := badP_all p xs
 clear h hm HP
 generalize badP p xs = q at HI hab
 generalize xs.all p = y at hab ⊢
 subst hab
 by_cases hq : q < 0
 ·have hq2 : ¬ (0 ≤ q) := by omega
  go_enter Tryz.func154, Tryz.ntmps154
  go_wp2_with fail
  refine HI.mono ?_
  rintro e w1 ⟨rfl, b1⟩
  go_wp2
  go_ret
  exact ⟨by simp [hq], b1⟩
 ·have hq2 : 0 ≤ q := by omega
  go_enter Tryz.func154, Tryz.ntmps154
  go_wp2_with fail
  refine HI.mono ?_
  rintro e w1 ⟨rfl, b1⟩
  go_wp2
  go_ret
  exact ⟨by simp [hq], b1⟩
theorem closFitEvent {q : Bool} {g : Nat} (x : EventD) (cs : List Value) (w : World) (h : eventR.rd w cs x) (hg : w.heap[g]? = some (.cells #[.func (.func 110) #[] #[]] 116 (0, 0)))
    (HF : ∀ W, Below w.heap.size w W → Calls Tryz.prog 110 #[aggV cs] W fun e w' => e = .returned (.bool q) ∧ Below W.heap.size W w') :
    Calls Tryz.prog 155 #[aggV cs, .pointer (some ⟨g, 0, none⟩)] w fun e w' => e = .returned (.bool (!q)) ∧ Below w.heap.size w w' := by
 obtain ⟨ga, gc, rfl⟩ := event_shape0 h
 rw [show aggV [.int .i64 x.1, .int .i64 x.2.1.1, .int .i64 x.2.1.2.1, .int .i64 x.2.1.2.2.1, .int .i64 x.2.1.2.2.2, .int .i64 x.2.2.1, .int .i64 x.2.2.2.1, .slice ga x.2.2.2.2.1.length gc, .int .i64 x.2.2.2.2.2] = .agg #[.int .i64 x.1, .int .i64 x.2.1.1, .int .i64 x.2.1.2.1, .int .i64 x.2.1.2.2.1, .int .i64 x.2.1.2.2.2, .int .i64 x.2.2.1, .int .i64 x.2.2.2.1, .slice ga x.2.2.2.2.1.length gc, .int .i64 x.2.2.2.2.2] from rfl] at HF ⊢
 have B := box_below w (.cells #[.int .i64 x.1, .int .i64 x.2.1.1, .int .i64 x.2.1.2.1, .int .i64 x.2.1.2.2.1, .int .i64 x.2.1.2.2.2, .int .i64 x.2.2.1, .int .i64 x.2.2.2.1, .slice ga x.2.2.2.2.1.length gc, .int .i64 x.2.2.2.2.2] 119)
 have G := row_keep B hg
 have HFF : Hid _ := HF
 clear h hg HF
 go_enter Tryz.func155, Tryz.ntmps155
 go_upto_region 1 with fail
 have X := heap_at w (.cells #[.int .i64 x.1, .int .i64 x.2.1.1, .int .i64 x.2.1.2.1, .int .i64 x.2.1.2.2.1, .int .i64 x.2.1.2.2.2, .int .i64 x.2.2.1, .int .i64 x.2.2.2.1, .slice ga x.2.2.2.2.1.length gc, .int .i64 x.2.2.2.2.2] 119)
 generalize w.alloc (.cells #[.int .i64 x.1, .int .i64 x.2.1.1, .int .i64 x.2.1.2.1, .int .i64 x.2.1.2.2.1, .int .i64 x.2.1.2.2.2, .int .i64 x.2.2.1, .int .i64 x.2.2.2.1, .slice ga x.2.2.2.2.1.length gc, .int .i64 x.2.2.2.2.2] 119) = W0 at B G X ⊢
 have g0 : W0.cell? ⟨g, 0, none⟩ = some (.func (.func 110) #[] #[]) := by rw [cell_of_row W0 g 0 _ _ (0, 0) G]; rfl
 obtain ⟨y0, y1, y2, y3, y4, y5, y6, y7, y8⟩ := cells_core X
 clear G X
 go_wp2_with fail
 refine (HFF.out _ B).mono ?_
 rintro e w1 ⟨rfl, b1⟩
 replace B := below_step B b1
 clear g0 b1 y0 y1 y2 y3 y4 y5 y6 y7 y8
 go_wp2
 go_ret
 exact ⟨rfl, B⟩
theorem allFitEvent {p : EventD → Bool} (a : Option Addr) (xs : List EventD) (cap : Nat) (w : World) (h : SlRd eventR w a xs) (hm : xs.length ≤ maxLen)
    (HF : ∀ (x : EventD) (cs : List Value) (W : World), x ∈ xs → Below w.heap.size w W → eventR.rd W cs x → Calls Tryz.prog 110 #[aggV cs] W fun e w' => e = .returned (.bool (p x)) ∧ Below W.heap.size W w') :
    Calls Tryz.prog 109 #[.slice a xs.length cap, .func (.func 110) #[] #[]] w fun e w' => e = .returned (.bool (xs.all p)) ∧ Below w.heap.size w w' := by
 have B := box_below w (.cells #[.func (.func 110) #[] #[]] 116)
 have G := heap_at w (.cells #[.func (.func 110) #[] #[]] 116)
 have HC := conFnEvent (p := p) (g := w.heap.size) a xs cap (w.alloc (.cells #[.func (.func 110) #[] #[]] 116)) (slrd_next h B) hm (fun x cs W hx hb hr => closFitEvent x cs W hr (row_keep hb G) (fun W2 hb2 => HF x cs W2 hx (below_step (below_step B hb) hb2) (rd_next hr hb2)))
 clear h hm HF G
 generalize xs.all p = y at HC ⊢
 go_enter Tryz.func109, Tryz.ntmps109
 go_wp2_with fail
 refine HC.mono ?_
 rintro e w1 ⟨rfl, b1⟩
 replace B := below_step B b1
 clear b1
 go_wp2
 go_ret
 exact ⟨by simp, B⟩
end Go.Proofs.YtiiipclglngdhaaGreatDoor
