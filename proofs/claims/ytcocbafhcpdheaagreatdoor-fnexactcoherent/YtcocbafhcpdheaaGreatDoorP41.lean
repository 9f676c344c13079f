import Derived.Test.YtcocbafhcpdheaaGreatDoorP00Box
import Derived.Test.YtcocbafhcpdheaaGreatDoorP39
import Derived.Test.YtcocbafhcpdheaaGreatDoorP40
namespace Go.Proofs.YtcocbafhcpdheaaGreatDoor
open Go.ChangeShapes Go.WideShapes Go.ChangeAt Go.RowKit
set_option linter.unusedVariables false
def headF (x : FabricD) : Bool := decide (codeI x.1.1 x.1.2.1 x.1.2.2.1 x.1.2.2.2 = 0) && (houseB x.2.1 && (decide ((x.2.1.2.length : Int) = x.1.2.2.2) && (decide ((x.2.2.1.length : Int) = x.1.1) && (dmaS x.2.2.2.1 && (decide (descI x.1.1 x.1.2.1 x.1.2.2.1 x.1.2.2.2 x.2.2.2.1.1 = 0) && (netB x.2.2.2.2.1 && decide (x.2.2.2.2.2.length ≤ 200)))))))
noncomputable def coreS (c s y l : Int) (u : CoreD) : Bool := coreB u && (decide ((u.1.1.length : Int) = s) && (decide ((waysN u.1 : Int) = y) && decide (progI c s y l u.2.1 = 0)))
def entS (c : Int) (e : EntryD) : Bool := decide (e.1 < c) && (decide (e.2.1 < 2 ^ c.toNat) && !(decide (e.2.2.2.2.1 < 4) && decide (c ≤ e.2.2.2.2.1)))
def msgS (c l : Int) (m : MsgD) : Bool := decide (m.2.2.2.2.1 < l) && (!(decide (m.2.1 < 4) && decide (c ≤ m.2.1)) && !(decide (m.2.2.1 < 4) && decide (c ≤ m.2.2.1)))
noncomputable def fabS (x : FabricD) : Bool := headF x && (x.2.2.1.all (coreS x.1.1 x.1.2.1 x.1.2.2.1 x.1.2.2.2) && (x.2.2.1.all (linesIn x.1.2.2.2) && (x.2.1.2.all (entS x.1.1) && (x.2.2.2.2.1.all (msgS x.1.1 x.1.2.2.2) && x.2.2.2.2.2.all evB))))
theorem all_congr {α : Type} {p q : α → Bool} {xs : List α} (h : ∀ a ∈ xs, p a = q a) : xs.all p = xs.all q := by
 induction xs with
 | nil => rfl
 | cons a xs ih => rw [List.all_cons, List.all_cons, h a (List.mem_cons_self ..), ih fun b hb => h b (List.mem_cons_of_mem _ hb)]
theorem all_both {α : Type} {p q : α → Bool} {xs : List α} : (xs.all p && xs.all q) = xs.all fun a => p a && q a := by
 induction xs with
 | nil => rfl
 | cons a xs ih =>
  rw [List.all_cons, List.all_cons, List.all_cons, ← ih];cases p a <;> cases q a <;> cases xs.all p <;> cases xs.all q <;> rfl
set_option linter.unusedSimpArgs false
theorem shar_fin : ∀ c : Fin 5, ∀ s : Fin 16, (mems (s.val : Int) 8).all (fun k => betw k 0 ((c.val : Int) - 1)) = decide ((s.val : Int) < 2 ^ c.val) := by decide +kernel
theorem bool_iff {a b : Bool} (h : a = true ↔ b = true) : a = b := by
 cases a <;> cases b <;> simp_all
theorem ent_eq {c : Int} {e : EntryD} (h1 : 1 ≤ c) (h4 : c ≤ 4) (h : entB e = true) : entS c e = entIn c e := by
 have hw : whoB e.1 e.2.1 = true := by unfold entB at h; rw [Bool.and_eq_true] at h; exact h.1
 have hf : (0 ≤ e.2.2.2.2.1 ∧ e.2.2.2.2.1 ≤ 3) ∨ e.2.2.2.2.1 = 5 := by
  unfold entB at h;rw [Bool.and_eq_true] at h;have q := h.2;cases hb : e.2.2.1
  ·rw [hb] at q;simp only [Bool.false_eq_true, if_false, restB, Bool.and_eq_true, decide_eq_true_eq] at q;omega
  ·rw [hb] at q;simp only [if_true, busyB, fromB, betw, Bool.and_eq_true, decide_eq_true_eq] at q;have q3 := q.2.2.1;split at q3
   ·simp only [decide_eq_true_eq] at q3;omega
   ·simp only [Bool.and_eq_true, decide_eq_true_eq] at q3;omega
 unfold entIn holdE;rw [if_pos h];have hh : (hoI e.1 e.2.1).all (coreIn c) = (decide (e.1 < c) && decide (e.2.1 < 2 ^ c.toNat)) := by
  simp only [whoB, betw, Bool.and_eq_true, decide_eq_true_eq, Bool.not_eq_true', Bool.and_eq_false_iff, decide_eq_false_iff_not, Bool.not_eq_false'] at hw;obtain ⟨w1, w2, w3⟩ := hw;unfold hoI;by_cases ho : 0 ≤ e.1
  ·have hs : e.2.1 = 0 := by
     rcases w3 with w3 | w3
     ·exact absurd ho w3
     ·exact w3
   rw [if_pos ho, hs];have hp : (0 : Int) < 2 ^ c.toNat := Int.pow_pos (by decide);rw [decide_eq_true hp, Bool.and_true];simp only [List.all_cons, List.all_nil, Bool.and_true, coreIn, betw];refine bool_iff ?_;simp only [decide_eq_true_eq];omega
  ·rw [if_neg ho, decide_eq_true (show e.1 < c by omega), Bool.true_and];obtain ⟨s, hs⟩ : ∃ s : Fin 16, (s.val : Int) = e.2.1 := ⟨⟨e.2.1.toNat, by omega⟩, by simp; omega⟩;obtain ⟨n, hn⟩ : ∃ n : Fin 5, (n.val : Int) = c := ⟨⟨c.toNat, by omega⟩, by simp; omega⟩;have q := shar_fin n s;rw [hs, hn] at q;rw [show c.toNat = n.val from by omega];exact q
 rw [hh];unfold entS agentIn coreIn;refine bool_iff ?_;simp only [Bool.and_eq_true, Bool.or_eq_true, decide_eq_true_eq, Bool.not_eq_true', Bool.and_eq_false_iff, decide_eq_false_iff_not, betw];constructor
 ·rintro ⟨a, b, d⟩;refine ⟨?_, a, b⟩;rcases hf with hf | hf
  ·exact .inr (.inr (by omega))
  ·exact .inr (.inl hf)
 ·rintro ⟨a, b, d⟩;exact ⟨b, d, by omega⟩
theorem msg_eq {c l : Int} {m : MsgD} (h1 : 1 ≤ c) (h4 : c ≤ 4) (h : msgB m = true) : msgS c l m = msgIn c l m := by
 have hm : (0 ≤ m.2.1 ∧ m.2.1 ≤ 5) ∧ (0 ≤ m.2.2.1 ∧ m.2.2.1 ≤ 5) ∧ (0 ≤ m.2.2.2.2.1 ∧ m.2.2.2.2.1 ≤ 15) := by
  simp only [msgB, endsB, betw, Bool.and_eq_true, decide_eq_true_eq] at h;omega
 unfold msgS msgIn agentIn coreIn lineIn;refine bool_iff ?_;simp only [Bool.and_eq_true, Bool.or_eq_true, decide_eq_true_eq, Bool.not_eq_true', Bool.and_eq_false_iff, decide_eq_false_iff_not, betw];omega
theorem way_in {l : Int} {u : WayD} (h1 : 1 ≤ l) (h : clearB u = true ∨ (0 ≤ u.1 ∧ u.1 ≤ 15)) : decide (u.1 < l) = wayIn l u := by
 have hu : -1 ≤ u.1 := by
  rcases h with h | h
  ·simp only [clearB, decide_eq_true_eq] at h;omega
  ·omega
 unfold wayIn lineIn;refine bool_iff ?_;simp only [Bool.or_eq_true, decide_eq_true_eq, betw];omega
theorem core_eq {c s y l : Int} {u : CoreD} (h1 : 1 ≤ l) : (coreS c s y l u && linesIn l u) = coreFit c s y l u := by
 unfold coreS coreFit;cases hb : coreB u
 ·simp
 ·have hok := core_ok hb;have hr : rowsIn l u = waysIn l u.1 := by
   unfold rowsIn waysIn;refine all_congr fun row hrow => all_congr fun v hv => ?_;obtain ⟨i, hi⟩ := List.getElem?_of_mem hrow;obtain ⟨j, hj⟩ := List.getElem?_of_mem hv;obtain ⟨-, -, m, -, h3⟩ := hok;refine way_in h1 ?_;rcases (h3 i row hi).2.2.1 j v hj with q | ⟨q, -⟩
   ·exact .inl q
   ·simp only [fullB, decide_eq_true_eq] at q;exact .inr q.1
  have hd : decide (u.2.2.2.2.1.1 < l) = wayIn l u.2.2.2.2.1 := by
   refine way_in h1 ?_;have q : restC u = true := by
    unfold coreB at hb;simp only [Bool.and_eq_true] at hb;exact hb.2.2.2.2.2.2.2
   unfold restC at q;split at q
   ·simp only [Bool.and_eq_true, Bool.or_eq_true, goneB, fullB, betw, decide_eq_true_eq] at q;rcases q.1 with q1 | q1
    ·exact .inr (by omega)
    ·exact .inr q1.1
   ·exact .inl q
  unfold linesIn cacheIn;rw [hr, hd];cases decide ((u.1.1.length : Int) = s) <;> cases decide ((waysN u.1 : Int) = y) <;> cases decide (progI c s y l u.2.1 = 0) <;> cases waysIn l u.1 <;> cases wayIn l u.2.2.2.2.1 <;> rfl
theorem dma_eq {c s y l : Int} {x : DmaD} (hc : codeI c s y l = 0) : (dmaS x && decide (descI c s y l x.1 = 0)) = (dmaB x && decide (descI c s y l x.1 = 0)) := by
 unfold dmaS;by_cases hd : descI c s y l x.1 = 0
 ·have hl := (code_cores hc).2;have q : x.1.all line15 = true := by
   unfold descI at hd;rw [if_pos hc] at hd;split at hd
   ·split at hd
    ·split at hd
     ·rename_i a
      refine List.all_eq_true.2 fun u hu => ?_;have := List.all_eq_true.1 a u hu;simp only [dlnOk, betw, decide_eq_true_eq] at this;simp only [line15, betw, decide_eq_true_eq];omega
     ·cases hd
    ·cases hd
   ·cases hd
  rw [q, Bool.and_true]
 ·rw [decide_eq_false hd, Bool.and_false, Bool.and_false]
noncomputable def fabI (x : FabricD) : Bool := decide (codeI x.1.1 x.1.2.1 x.1.2.2.1 x.1.2.2.2 = 0) && (houseFit x && (coresFit x && (dmaFit x && (netFit x && (decide (x.2.2.2.2.2.length ≤ 200) && x.2.2.2.2.2.all evB)))))
theorem fab_eq (x : FabricD) : fabS x = fabI x := by
 unfold fabS fabI headF;by_cases hc : codeI x.1.1 x.1.2.1 x.1.2.2.1 x.1.2.2.2 = 0
 ·obtain ⟨⟨c1, c4⟩, l1, l16⟩ := code_cores hc;rw [decide_eq_true hc];have e1 : (houseB x.2.1 && x.2.1.2.all (entS x.1.1)) = (houseB x.2.1 && x.2.1.2.all (entIn x.1.1)) := by
   cases hb : houseB x.2.1
   ·rfl
   ·have q : ∀ e ∈ x.2.1.2, entB e = true := by
      unfold houseB at hb;simp only [Bool.and_eq_true] at hb;exact List.all_eq_true.1 hb.2.2
    rw [all_congr fun e he => ent_eq c1 c4 (q e he)]
  have e2 : (netB x.2.2.2.2.1 && x.2.2.2.2.1.all (msgS x.1.1 x.1.2.2.2)) = (netB x.2.2.2.2.1 && x.2.2.2.2.1.all (msgIn x.1.1 x.1.2.2.2)) := by
   cases hb : netB x.2.2.2.2.1
   ·rfl
   ·have q : ∀ m ∈ x.2.2.2.2.1, msgB m = true := by
      unfold netB at hb;rw [Bool.and_eq_true] at hb;exact List.all_eq_true.1 hb.2
    rw [all_congr fun m hm => msg_eq c1 c4 (q m hm)]
  have e3 : (x.2.2.1.all (coreS x.1.1 x.1.2.1 x.1.2.2.1 x.1.2.2.2) && x.2.2.1.all (linesIn x.1.2.2.2)) = x.2.2.1.all (coreFit x.1.1 x.1.2.1 x.1.2.2.1 x.1.2.2.2) := by
   rw [all_both];exact all_congr fun u _ => core_eq l1
  have e4 := dma_eq (x := x.2.2.2.1) hc;unfold houseFit coresFit dmaFit netFit;generalize houseB x.2.1 = h0 at *;generalize x.2.1.2.all (entS x.1.1) = h1 at *;generalize x.2.1.2.all (entIn x.1.1) = h2 at *;generalize netB x.2.2.2.2.1 = n0 at *;generalize x.2.2.2.2.1.all (msgS x.1.1 x.1.2.2.2) = n1 at *;generalize x.2.2.2.2.1.all (msgIn x.1.1 x.1.2.2.2) = n2 at *;generalize x.2.2.1.all (coreS x.1.1 x.1.2.1 x.1.2.2.1 x.1.2.2.2) = k1 at *;generalize x.2.2.1.all (linesIn x.1.2.2.2) = k2 at *;generalize x.2.2.1.all (coreFit x.1.1 x.1.2.1 x.1.2.2.1 x.1.2.2.2) = k3 at *;generalize dmaS x.2.2.2.1 = d1 at *;generalize dmaB x.2.2.2.1 = d2 at *;generalize decide (descI x.1.1 x.1.2.1 x.1.2.2.1 x.1.2.2.2 x.2.2.2.1.1 = 0) = d3 at *;generalize decide ((x.2.1.2.length : Int) = x.1.2.2.2) = z1;generalize decide ((x.2.2.1.length : Int) = x.1.1) = z2;generalize decide (x.2.2.2.2.2.length ≤ 200) = z3;generalize x.2.2.2.2.2.all evB = z4;subst e3;cases h0 <;> cases n0 <;> cases d3 <;> cases z1 <;> cases z2 <;> cases z3 <;> cases z4 <;> simp_all
  cases h2 <;> cases n2 <;> cases k1 <;> cases k2 <;> cases d2 <;> rfl
 ·rw [decide_eq_false hc];simp
theorem prog_len {c s y l : Int} {p : List OpD} (h : progI c s y l p = 0) : p.length ≤ 30 := by
 unfold progI at h;split at h
 ·split at h
  ·assumption
  ·cases h
 ·cases h
theorem fab_facts {x : FabricD} (h : fabI x = true) : (1 ≤ x.1.1 ∧ x.1.1 ≤ 4) ∧ (x.2.2.1.length : Int) = x.1.1 ∧ x.2.2.2.1.1.length ≤ 30 ∧ (0 ≤ x.2.2.2.1.2.1 ∧ x.2.2.2.1.2.1 ≤ (x.2.2.2.1.1.length : Int)) ∧ ∀ u ∈ x.2.2.1, u.2.1.length ≤ 30 := by
 unfold fabI at h;simp only [Bool.and_eq_true, decide_eq_true_eq] at h;obtain ⟨hc, -, hk, hd, -, -, -⟩ := h;unfold coresFit at hk;simp only [Bool.and_eq_true, decide_eq_true_eq] at hk;unfold dmaFit dmaB descsB placeB1 at hd;simp only [Bool.and_eq_true, decide_eq_true_eq, betw] at hd;refine ⟨(code_cores hc).1, hk.1, hd.1.1.1, hd.1.2.1, fun u hu => ?_⟩;have q := List.all_eq_true.1 hk.2 u hu;unfold coreFit at q;simp only [Bool.and_eq_true, decide_eq_true_eq] at q;exact prog_len q.2.1
def wayOf (c : CacheD) (k : Int) : WayD := match atC c k with
 | some j => (rowFor c k).getD j emptyW
 | none => emptyW
def stateOf (u : CoreD) (k : Int) : Int := (wayOf u.1 k).2.1
def statesI (x : FabricD) (k : Int) : List Int := x.2.2.1.map fun u => stateOf u k
theorem fab_core {x : FabricD} (h : fabI x = true) {u : CoreD} (hu : u ∈ x.2.2.1) : OkC isL treeB u.1 := by
 unfold fabI at h;simp only [Bool.and_eq_true, decide_eq_true_eq] at h;obtain ⟨hc, -, hk, -⟩ := h;unfold coresFit at hk;simp only [Bool.and_eq_true, decide_eq_true_eq] at hk;have q := List.all_eq_true.1 hk.2 u hu;unfold coreFit at q;simp only [Bool.and_eq_true, decide_eq_true_eq] at q;exact core_ok q.1
theorem fab_lines {x : FabricD} (h : fabI x = true) : (1 ≤ x.1.2.2.2 ∧ x.1.2.2.2 ≤ 16) ∧ (x.2.1.2.length : Int) = x.1.2.2.2 := by
 unfold fabI at h;simp only [Bool.and_eq_true, decide_eq_true_eq] at h;obtain ⟨hc, hh, -⟩ := h;unfold houseFit at hh;simp only [Bool.and_eq_true, decide_eq_true_eq] at hh;exact ⟨(code_cores hc).2, hh.2.1⟩
theorem froz_way {w : World} {g : Nat} {cs : Array Value} {t : TypeId} (h : w.heap[g]? = some (.cells cs t (0, 0))) : w.frozen? ⟨g, 0, none⟩ = false ∧ w.frozen? ⟨g, 1, none⟩ = false ∧ w.frozen? ⟨g, 2, none⟩ = false :=
 ⟨frozen_of_row w g 0 _ _ h, frozen_of_row w g 1 _ _ h, frozen_of_row w g 2 _ _ h⟩
set_option maxHeartbeats 4000000 in
theorem specWay_u (cs : List Value) (c : CacheD) (k : Int) (w : World) (hok : OkC isL treeB c) (h : cacheR.rd w cs c) :
    Calls Tryz.prog 103 #[aggV cs, .int .i64 k] w fun e w' => ∃ us, e = .returned (aggV us) ∧ wayR.rd w' us (wayOf c k) ∧ Below w.heap.size w w' := by
 have HAT : Hid (∀ W, Below w.heap.size w W → Calls Tryz.prog 150 #[aggV cs, .int .i64 k] W fun e w' => e = .returned (.int .i64 (idxI (atC c k))) ∧ Below W.heap.size W w') := fun W hb => specAt_u cs c k W hok (rd_next h hb);obtain ⟨a, cap, b, cp, rfl, l1, l2, m1, m2, h1, h2⟩ := cache_rd h;cases hat : atC c k with
 | none =>
  rw [hat] at HAT;have hw : wayOf c k = emptyW := by unfold wayOf; rw [hat]
  rw [hw];clear h h1 h2 hok hat hw;rw [show aggV _ = .agg _ from rfl] at HAT ⊢;have X := heap_on (.cells #[.int .i64 0, .int .i64 0, .slice none 0 0] 88) (heap_at w (.cells #[.slice a c.1.length cap, .slice b c.2.length cp] 92));have Y := heap_at (w.alloc (.cells #[.slice a c.1.length cap, .slice b c.2.length cp] 92)) (.cells #[.int .i64 0, .int .i64 0, .slice none 0 0] 88);rw [alloc_len] at Y;have B := below_step (box_below w (.cells #[.slice a c.1.length cap, .slice b c.2.length cp] 92)) (box_below _ (.cells #[.int .i64 0, .int .i64 0, .slice none 0 0] 88));go_enter Tryz.func103, Tryz.ntmps103;go_wp2_with fail
  generalize (w.alloc (.cells #[.slice a c.1.length cap, .slice b c.2.length cp] 92)).alloc (.cells #[.int .i64 0, .int .i64 0, .slice none 0 0] 88) = W0 at X Y B ⊢;refine (HAT.out _ B).mono ?_;rintro e w1 ⟨rfl, bq⟩;replace X := row_keep bq X;replace Y := row_keep bq Y;replace B := below_step B bq;clear bq X HAT;rw [show idxI (none : Option Nat) = -1 from rfl];go_wp2_with fail
  refine (l6Empty_u _).mono ?_;rintro e w2 ⟨ds, rfl, mm⟩;have mb := mm.2;obtain ⟨ea, ec, rfl, -, -, -, -, hq⟩ := way_rd (wayR.own_rd mm.1);rw [show aggV [.int .i64 emptyW.1, .int .i64 emptyW.2.1, .slice ea emptyW.2.2.length ec] = .agg #[.int .i64 (-1), .int .i64 0, .slice ea 0 ec] from rfl];have O2 := owned_made (R := wayR) mm;have yl := (ltH Y);replace Y := row_keep mb Y;replace B := below_step B mb;obtain ⟨y0, y1, y2⟩ := cells_three Y;obtain ⟨f0, f1, f2⟩ := froz_way Y;have HZ : Hid _ := And.intro Y (And.intro B O2);clear Y B O2 mm mb hq;go_wp2;obtain ⟨Y, B, O2⟩ := HZ.out;have V := row_setCs (g := w.heap.size + 1) [.int .i64 (-1), .int .i64 0, .slice ea 0 ec] 0 Y;obtain ⟨r0, r1, r2⟩ := cells_three (show (((w2.setCell ⟨w.heap.size + 1, 0, none⟩ (.int .i64 (-1))).setCell ⟨w.heap.size + 1, 1, none⟩ (.int .i64 0)).setCell ⟨w.heap.size + 1, 2, none⟩ (.slice ea 0 ec)).heap[w.heap.size + 1]? = some (.cells #[.int .i64 (-1), .int .i64 0, .slice ea 0 ec] 88 (0, 0)) from V);refine bodyPost_ret (v := .agg #[.int .i64 (-1), .int .i64 0, .slice ea 0 ec]) (by simp [results, Tryz.results103, go_sem, r0, r1, r2]) rfl ⟨[.int .i64 (-1), .int .i64 0, .slice ea 0 ec], rfl, ?_, below_setCs0 (g := w.heap.size + 1) (o := 0) (vs := [.int .i64 (-1), .int .i64 0, .slice ea 0 ec]) B (by omega)⟩;exact wayR.own_rd (own_setCs (g := w.heap.size + 1) (o := 0) (vs := [.int .i64 (-1), .int .i64 0, .slice ea 0 ec]) O2.1 (fun q => by have := q.1; omega))
 | some fi =>
  obtain ⟨hl0, u, hu, hul⟩ := at_some hat;have hw : wayOf c k = u := by unfold wayOf; rw [hat]; simp only; rw [List.getD_eq_getElem?_getD, hu]; rfl
  rw [hw];obtain ⟨hp, hget, hne, hr4, hset, hsl⟩ := ok_row hok k;obtain ⟨b0, o0, aj, cj, rfl, k2, -, -, hrd⟩ := set_at h1 hget;obtain ⟨bj, oj, cs, rfl, hrdu, hcell⟩ := slrd_at hrd hu;have hrdu2 := hrdu;obtain ⟨ad, cpw, rfl, i1, i2, -, -, hd3⟩ := way_rd hrdu;have k4 := hcell 0 _ rfl;have k5 := hcell 1 _ rfl;have k6 := hcell 2 _ rfl;rw [show oj + (fi * wayR.size + 0) = oj + fi * 3 from rfl] at k4;rw [show oj + (fi * wayR.size + 1) = oj + fi * 3 + 1 from rfl] at k5;rw [show oj + (fi * wayR.size + 2) = oj + fi * 3 + 2 from rfl] at k6;refine (l6Way_in b c cap cp b0 o0 bj oj cj fi cpw ad k u.1 u.2.1 u.2.2 w hok h1 hat k2 k4 k5 k6).mono ?_;rintro e w' ⟨rfl, bq⟩;exact ⟨_, rfl, rd_next hrdu2 bq, bq⟩
end Go.Proofs.YtcocbafhcpdheaaGreatDoor
