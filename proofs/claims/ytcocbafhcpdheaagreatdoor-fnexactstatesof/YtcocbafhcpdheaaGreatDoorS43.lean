import Derived.Test.YtcocbafhcpdheaaGreatDoorS00Box
import Derived.Test.YtcocbafhcpdheaaGreatDoorS41
import Derived.Test.YtcocbafhcpdheaaGreatDoorS42
namespace Go.Proofs.YtcocbafhcpdheaaGreatDoor
set_option maxHeartbeats 4000000
set_option maxRecDepth 20000
open Go.ChangeShapes Go.WideShapes Go.ChangeAt Go.RowKit
set_option linter.unusedVariables false
def headF (x : FabricD) : Bool := decide (codeI x.1.1 x.1.2.1 x.1.2.2.1 x.1.2.2.2 = 0) && (houseB x.2.1 && (decide ((x.2.1.2.length : Int) = x.1.2.2.2) && (decide ((x.2.2.1.length : Int) = x.1.1) && (dmaS x.2.2.2.1 && (decide (descI x.1.1 x.1.2.1 x.1.2.2.1 x.1.2.2.2 x.2.2.2.1.1 = 0) && (netB x.2.2.2.2.1 && decide (x.2.2.2.2.2.length ≤ 200)))))))
noncomputable def coreS (c s y l : Int) (u : CoreD) : Bool := coreB u && (decide ((u.1.1.length : Int) = s) && (decide ((waysN u.1 : Int) = y) && decide (progI c s y l u.2.1 = 0)))
def entS (c : Int) (e : EntryD) : Bool := decide (e.1 < c) && (decide (e.2.1 < 2 ^ c.toNat) && !(decide (e.2.2.2.2.1 < 4) && decide (c ≤ e.2.2.2.2.1)))
def msgS (c l : Int) (m : MsgD) : Bool := decide (m.2.2.2.2.1 < l) && (!(decide (m.2.1 < 4) && decide (c ≤ m.2.1)) && !(decide (m.2.2.1 < 4) && decide (c ≤ m.2.2.1)))
noncomputable def fabS (x : FabricD) : Bool := headF x && (x.2.2.1.all (coreS x.1.1 x.1.2.1 x.1.2.2.1 x.1.2.2.2) && (x.2.2.1.all (linesIn x.1.2.2.2) && (x.2.1.2.all (entS x.1.1) && (x.2.2.2.2.1.all (msgS x.1.1 x.1.2.2.2) && x.2.2.2.2.2.all evB))))
theorem all_congr {α : Type} {p q : α → Bool} {xs : List α} (h : ∀ a ∈ xs, p a = q a) : xs.all p = xs.all q := by
 induction xs with
 | nil => rfl
 | cons a xs ih => rw [List.all_cons, List.all_cons, h a (List.mem_cons_self ..), ih fun b hb => h b (List.mem_cons_of_mem _ hb)]
theorem all_both {α : Type} {p q : α → Bool} {xs : List α} : (xs.all p && xs.all q) = xs.all fun a => p a && q a := by
 induction xs with
 | nil => rfl
 | cons a xs ih =>
  rw [List.all_cons, List.all_cons, List.all_cons, ← ih];cases p a <;> cases q a <;> cases xs.all p <;> cases xs.all q <;> rfl
set_option linter.unusedSimpArgs false
theorem shar_fin : ∀ c : Fin 5, ∀ s : Fin 16, (mems (s.val : Int) 8).all (fun k => betw k 0 ((c.val : Int) - 1)) = decide ((s.val : Int) < 2 ^ c.val) := by decide +kernel
theorem bool_iff {a b : Bool} (h : a = true ↔ b = true) : a = b := by
 cases a <;> cases b <;> simp_all
theorem ent_eq {c : Int} {e : EntryD} (h1 : 1 ≤ c) (h4 : c ≤ 4) (h : entB e = true) : entS c e = entIn c e := by
 have l : whoB e.1 e.2.1 = true := by unfold entB at h; rw [Bool.and_eq_true] at h; exact h.1
 have g : (0 ≤ e.2.2.2.2.1 ∧ e.2.2.2.2.1 ≤ 3) ∨ e.2.2.2.2.1 = 5 := by
  unfold entB at h;rw [Bool.and_eq_true] at h;have q := h.2;cases m : e.2.2.1
  ·rw [m] at q;simp only [Bool.false_eq_true, if_false, restB, Bool.and_eq_true, decide_eq_true_eq] at q;omega
  ·rw [m] at q;simp only [if_true, busyB, fromB, betw, Bool.and_eq_true, decide_eq_true_eq] at q;have i := q.2.2.1;split at i
   ·simp only [decide_eq_true_eq] at i;omega
   ·simp only [Bool.and_eq_true, decide_eq_true_eq] at i;omega
 unfold entIn holdE;rw [if_pos h];have p : (hoI e.1 e.2.1).all (coreIn c) = (decide (e.1 < c) && decide (e.2.1 < 2 ^ c.toNat)) := by
  simp only [whoB, betw, Bool.and_eq_true, decide_eq_true_eq, Bool.not_eq_true', Bool.and_eq_false_iff, decide_eq_false_iff_not, Bool.not_eq_false'] at l;obtain ⟨w1, w2, f⟩ := l;unfold hoI;by_cases k : 0 ≤ e.1
  ·have j : e.2.1 = 0 := by
     rcases f with f | f
     ·exact absurd k f
     ·exact f
   rw [if_pos k, j];have r : (0 : Int) < 2 ^ c.toNat := Int.pow_pos (by decide);rw [decide_eq_true r, Bool.and_true];simp only [List.all_cons, List.all_nil, Bool.and_true, coreIn, betw];refine bool_iff ?_;simp only [decide_eq_true_eq];omega
  ·rw [if_neg k, decide_eq_true (show e.1 < c by omega), Bool.true_and];obtain ⟨s, j⟩ : ∃ s : Fin 16, (s.val : Int) = e.2.1 := ⟨⟨e.2.1.toNat, by omega⟩, by simp; omega⟩;obtain ⟨n, o⟩ : ∃ n : Fin 5, (n.val : Int) = c := ⟨⟨c.toNat, by omega⟩, by simp; omega⟩;have q := shar_fin n s;rw [j, o] at q;rw [show c.toNat = n.val from by omega];exact q
 rw [p];unfold entS agentIn coreIn;refine bool_iff ?_;simp only [Bool.and_eq_true, Bool.or_eq_true, decide_eq_true_eq, Bool.not_eq_true', Bool.and_eq_false_iff, decide_eq_false_iff_not, betw];constructor
 ·rintro ⟨a, b, d⟩;refine ⟨?_, a, b⟩;rcases g with g | g
  ·exact .inr (.inr (by omega))
  ·exact .inr (.inl g)
 ·rintro ⟨a, b, d⟩;exact ⟨b, d, by omega⟩
theorem msg_eq {c l : Int} {m : MsgD} (h1 : 1 ≤ c) (h4 : c ≤ 4) (h : msgB m = true) : msgS c l m = msgIn c l m := by
 have hm : (0 ≤ m.2.1 ∧ m.2.1 ≤ 5) ∧ (0 ≤ m.2.2.1 ∧ m.2.2.1 ≤ 5) ∧ (0 ≤ m.2.2.2.2.1 ∧ m.2.2.2.2.1 ≤ 15) := by
  simp only [msgB, endsB, betw, Bool.and_eq_true, decide_eq_true_eq] at h;omega
 unfold msgS msgIn agentIn coreIn lineIn;refine bool_iff ?_;simp only [Bool.and_eq_true, Bool.or_eq_true, decide_eq_true_eq, Bool.not_eq_true', Bool.and_eq_false_iff, decide_eq_false_iff_not, betw];omega
theorem way_in {l : Int} {u : WayD} (h1 : 1 ≤ l) (h : clearB u = true ∨ (0 ≤ u.1 ∧ u.1 ≤ 15)) : decide (u.1 < l) = wayIn l u := by
 have hu : -1 ≤ u.1 := by
  rcases h with h | h
  ·simp only [clearB, decide_eq_true_eq] at h;omega
  ·omega
 unfold wayIn lineIn;refine bool_iff ?_;simp only [Bool.or_eq_true, decide_eq_true_eq, betw];omega
theorem core_eq {c s y l : Int} {u : CoreD} (h1 : 1 ≤ l) : (coreS c s y l u && linesIn l u) = coreFit c s y l u := by
 unfold coreS coreFit;cases a : coreB u
 ·simp
 ·have b := core_ok a;have o : rowsIn l u = waysIn l u.1 := by
   unfold rowsIn waysIn;refine all_congr fun row hrow => all_congr fun v hv => ?_;obtain ⟨i, n⟩ := List.getElem?_of_mem hrow;obtain ⟨j, f⟩ := List.getElem?_of_mem hv;obtain ⟨-, -, m, -, g⟩ := b;refine way_in h1 ?_;rcases (g i row n).2.2.1 j v f with q | ⟨q, -⟩
   ·exact .inl q
   ·simp only [fullB, decide_eq_true_eq] at q;exact .inr q.1
  have k : decide (u.2.2.2.2.1.1 < l) = wayIn l u.2.2.2.2.1 := by
   refine way_in h1 ?_;have q : restC u = true := by
    unfold coreB at a;simp only [Bool.and_eq_true] at a;exact a.2.2.2.2.2.2.2
   unfold restC at q;split at q
   ·simp only [Bool.and_eq_true, Bool.or_eq_true, goneB, fullB, betw, decide_eq_true_eq] at q;rcases q.1 with d | d
    ·exact .inr (by omega)
    ·exact .inr d.1
   ·exact .inl q
  unfold linesIn cacheIn;rw [o, k];cases decide ((u.1.1.length : Int) = s) <;> cases decide ((waysN u.1 : Int) = y) <;> cases decide (progI c s y l u.2.1 = 0) <;> cases waysIn l u.1 <;> cases wayIn l u.2.2.2.2.1 <;> rfl
theorem dma_eq {c s y l : Int} {x : DmaD} (hc : codeI c s y l = 0) : (dmaS x && decide (descI c s y l x.1 = 0)) = (dmaB x && decide (descI c s y l x.1 = 0)) := by
 unfold dmaS;by_cases b : descI c s y l x.1 = 0
 ·have hl := (code_cores hc).2;have q : x.1.all line15 = true := by
   unfold descI at b;rw [if_pos hc] at b;split at b
   ·split at b
    ·split at b
     ·rename_i a
      refine List.all_eq_true.2 fun u hu => ?_;have := List.all_eq_true.1 a u hu;simp only [dlnOk, betw, decide_eq_true_eq] at this;simp only [line15, betw, decide_eq_true_eq];omega
     ·cases b
    ·cases b
   ·cases b
  rw [q, Bool.and_true]
 ·rw [decide_eq_false b, Bool.and_false, Bool.and_false]
noncomputable def fabI (x : FabricD) : Bool := decide (codeI x.1.1 x.1.2.1 x.1.2.2.1 x.1.2.2.2 = 0) && (houseFit x && (coresFit x && (dmaFit x && (netFit x && (decide (x.2.2.2.2.2.length ≤ 200) && x.2.2.2.2.2.all evB)))))
theorem fab_eq (x : FabricD) : fabS x = fabI x := by
 unfold fabS fabI headF;by_cases b : codeI x.1.1 x.1.2.1 x.1.2.2.1 x.1.2.2.2 = 0
 ·obtain ⟨⟨c, d⟩, i, g⟩ := code_cores b;rw [decide_eq_true b];have e1 : (houseB x.2.1 && x.2.1.2.all (entS x.1.1)) = (houseB x.2.1 && x.2.1.2.all (entIn x.1.1)) := by
   cases a : houseB x.2.1
   ·rfl
   ·have q : ∀ e ∈ x.2.1.2, entB e = true := by
      unfold houseB at a;simp only [Bool.and_eq_true] at a;exact List.all_eq_true.1 a.2.2
    rw [all_congr fun e he => ent_eq c d (q e he)]
  have e2 : (netB x.2.2.2.2.1 && x.2.2.2.2.1.all (msgS x.1.1 x.1.2.2.2)) = (netB x.2.2.2.2.1 && x.2.2.2.2.1.all (msgIn x.1.1 x.1.2.2.2)) := by
   cases a : netB x.2.2.2.2.1
   ·rfl
   ·have q : ∀ m ∈ x.2.2.2.2.1, msgB m = true := by
      unfold netB at a;rw [Bool.and_eq_true] at a;exact List.all_eq_true.1 a.2
    rw [all_congr fun m hm => msg_eq c d (q m hm)]
  have f : (x.2.2.1.all (coreS x.1.1 x.1.2.1 x.1.2.2.1 x.1.2.2.2) && x.2.2.1.all (linesIn x.1.2.2.2)) = x.2.2.1.all (coreFit x.1.1 x.1.2.1 x.1.2.2.1 x.1.2.2.2) := by
   rw [all_both];exact all_congr fun u _ => core_eq i
  have e4 := dma_eq (x := x.2.2.2.1) b;unfold houseFit coresFit dmaFit netFit;generalize houseB x.2.1 = h0 at *;generalize x.2.1.2.all (entS x.1.1) = h1 at *;generalize x.2.1.2.all (entIn x.1.1) = h2 at *;generalize netB x.2.2.2.2.1 = n0 at *;generalize x.2.2.2.2.1.all (msgS x.1.1 x.1.2.2.2) = n1 at *;generalize x.2.2.2.2.1.all (msgIn x.1.1 x.1.2.2.2) = n2 at *;generalize x.2.2.1.all (coreS x.1.1 x.1.2.1 x.1.2.2.1 x.1.2.2.2) = k1 at *;generalize x.2.2.1.all (linesIn x.1.2.2.2) = k2 at *;generalize x.2.2.1.all (coreFit x.1.1 x.1.2.1 x.1.2.2.1 x.1.2.2.2) = k3 at *;generalize dmaS x.2.2.2.1 = d1 at *;generalize dmaB x.2.2.2.1 = d2 at *;generalize decide (descI x.1.1 x.1.2.1 x.1.2.2.1 x.1.2.2.2 x.2.2.2.1.1 = 0) = d3 at *;generalize decide ((x.2.1.2.length : Int) = x.1.2.2.2) = z1;generalize decide ((x.2.2.1.length : Int) = x.1.1) = z2;generalize decide (x.2.2.2.2.2.length ≤ 200) = z3;generalize x.2.2.2.2.2.all evB = z4;subst f;cases h0 <;> cases n0 <;> cases d3 <;> cases z1 <;> cases z2 <;> cases z3 <;> cases z4 <;> simp_all
  cases h2 <;> cases n2 <;> cases k1 <;> cases k2 <;> cases d2 <;> rfl
 ·rw [decide_eq_false b];simp
theorem prog_len {c s y l : Int} {p : List OpD} (h : progI c s y l p = 0) : p.length ≤ 30 := by
 unfold progI at h;split at h
 ·split at h
  ·assumption
  ·cases h
 ·cases h
theorem fab_facts {x : FabricD} (h : fabI x = true) : (1 ≤ x.1.1 ∧ x.1.1 ≤ 4) ∧ (x.2.2.1.length : Int) = x.1.1 ∧ x.2.2.2.1.1.length ≤ 30 ∧ (0 ≤ x.2.2.2.1.2.1 ∧ x.2.2.2.1.2.1 ≤ (x.2.2.2.1.1.length : Int)) ∧ ∀ u ∈ x.2.2.1, u.2.1.length ≤ 30 := by
 unfold fabI at h;simp only [Bool.and_eq_true, decide_eq_true_eq] at h;obtain ⟨c, -, b, a, -, -, -⟩ := h;unfold coresFit at b;simp only [Bool.and_eq_true, decide_eq_true_eq] at b;unfold dmaFit dmaB descsB placeB1 at a;simp only [Bool.and_eq_true, decide_eq_true_eq, betw] at a;refine ⟨(code_cores c).1, b.1, a.1.1.1, a.1.2.1, fun u hu => ?_⟩;have q := List.all_eq_true.1 b.2 u hu;unfold coreFit at q;simp only [Bool.and_eq_true, decide_eq_true_eq] at q;exact prog_len q.2.1
def wayOf (c : CacheD) (k : Int) : WayD := match atC c k with
 | some j => (rowFor c k).getD j emptyW
 | none => emptyW
def stateOf (u : CoreD) (k : Int) : Int := (wayOf u.1 k).2.1
def statesI (x : FabricD) (k : Int) : List Int := x.2.2.1.map fun u => stateOf u k
noncomputable def lineF (x : FabricD) (k : Int) : Bool := fabI x && (decide (0 ≤ k) && decide (k < x.1.2.2.2))
noncomputable def stsI (x : FabricD) (k : Int) : List Int := if lineF x k = true then statesI x k else []
theorem fab_core {x : FabricD} (h : fabI x = true) {u : CoreD} (hu : u ∈ x.2.2.1) : OkC isL treeB u.1 := by
 unfold fabI at h;simp only [Bool.and_eq_true, decide_eq_true_eq] at h;obtain ⟨hc, -, a, -⟩ := h;unfold coresFit at a;simp only [Bool.and_eq_true, decide_eq_true_eq] at a;have q := List.all_eq_true.1 a.2 u hu;unfold coreFit at q;simp only [Bool.and_eq_true, decide_eq_true_eq] at q;exact core_ok q.1
theorem froz_way {w : World} {g : Nat} {cs : Array Value} {t : TypeId} (h : w.heap[g]? = some (.cells cs t (0, 0))) : w.frozen? ⟨g, 0, none⟩ = false ∧ w.frozen? ⟨g, 1, none⟩ = false ∧ w.frozen? ⟨g, 2, none⟩ = false :=
 ⟨frozen_of_row w g 0 _ _ h, frozen_of_row w g 1 _ _ h, frozen_of_row w g 2 _ _ h⟩
theorem specWay_u (A : List Value) (c : CacheD) (k : Int) (w : World) (hok : OkC isL treeB c) (h : cacheR.rd w A c) :
    Calls Tryz.prog 103 #[aggV A, .int .i64 k] w fun e J => ∃ us, e = .returned (aggV us) ∧ wayR.rd J us (wayOf c k) ∧ Below w.heap.size w J := by
 have m : Hid _ := fun (W : World) (hb : Below w.heap.size w W) => specAt_u A c k W hok (rd_next h hb);obtain ⟨a, i, b, z, rfl, l1, l2, m1, m2, I, T⟩ := cache_rd h;cases f : atC c k with
 | none =>
  rw [f] at m;have D : wayOf c k = emptyW := by unfold wayOf; rw [f]
  rw [D];clear h I T hok f D;rw [show aggV _ = .agg _ from rfl] at m ⊢;have X := heap_on (.cells #[.int .i64 0, .int .i64 0, .slice none 0 0] 88) (heap_at w (.cells #[.slice a c.1.length i, .slice b c.2.length z] 92));have Y := heap_at (w.alloc (.cells #[.slice a c.1.length i, .slice b c.2.length z] 92)) (.cells #[.int .i64 0, .int .i64 0, .slice none 0 0] 88);rw [alloc_len] at Y;have B := below_step (box_below w (.cells #[.slice a c.1.length i, .slice b c.2.length z] 92)) (box_below _ (.cells #[.int .i64 0, .int .i64 0, .slice none 0 0] 88));go_enter Tryz.func103, Tryz.ntmps103;go_wp2_with fail
  generalize (w.alloc (.cells #[.slice a c.1.length i, .slice b c.2.length z] 92)).alloc (.cells #[.int .i64 0, .int .i64 0, .slice none 0 0] 88) = W0 at X Y B ⊢;refine (m.out _ B).mono ?_;rintro e w1 ⟨rfl, r⟩;replace X := row_keep r X;replace Y := row_keep r Y;replace B := below_step B r;clear r X m;rw [show idxI (none : Option Nat) = -1 from rfl];go_wp2_with fail
  refine (l6Empty_u _).mono ?_;rintro e w2 ⟨ds, rfl, C⟩;have G := C.2;obtain ⟨j, l, rfl, -, -, -, -, hq⟩ := way_rd (wayR.own_rd C.1);rw [show aggV [.int .i64 emptyW.1, .int .i64 emptyW.2.1, .slice j emptyW.2.2.length l] = .agg #[.int .i64 (-1), .int .i64 0, .slice j 0 l] from rfl];have E := owned_made (R := wayR) C;have yl := (ltH Y);replace Y := row_keep G Y;replace B := below_step B G;obtain ⟨y0, y1, y2⟩ := cells_three Y;obtain ⟨f0, f1, f2⟩ := froz_way Y;have HZ : Hid _ := And.intro Y (And.intro B E);clear Y B E C G hq;go_wp2;obtain ⟨Y, B, E⟩ := HZ.out;have V := row_setCs (g := w.heap.size + 1) [.int .i64 (-1), .int .i64 0, .slice j 0 l] 0 Y;obtain ⟨S, r1, r2⟩ := cells_three (show (((w2.setCell ⟨w.heap.size + 1, 0, none⟩ (.int .i64 (-1))).setCell ⟨w.heap.size + 1, 1, none⟩ (.int .i64 0)).setCell ⟨w.heap.size + 1, 2, none⟩ (.slice j 0 l)).heap[w.heap.size + 1]? = some (.cells #[.int .i64 (-1), .int .i64 0, .slice j 0 l] 88 (0, 0)) from V);refine bodyPost_ret (v := .agg #[.int .i64 (-1), .int .i64 0, .slice j 0 l]) (by simp [results, Tryz.results103, go_sem, S, r1, r2]) rfl ⟨[.int .i64 (-1), .int .i64 0, .slice j 0 l], rfl, ?_, below_setCs0 (g := w.heap.size + 1) (o := 0) (vs := [.int .i64 (-1), .int .i64 0, .slice j 0 l]) B (by omega)⟩;exact wayR.own_rd (own_setCs (g := w.heap.size + 1) (o := 0) (vs := [.int .i64 (-1), .int .i64 0, .slice j 0 l]) E.1 (fun q => by have := q.1; omega))
 | some fi =>
  obtain ⟨pA, u, O, mA⟩ := at_some f;have D : wayOf c k = u := by unfold wayOf; rw [f]; simp only; rw [List.getD_eq_getElem?_getD, O]; rfl
  rw [D];obtain ⟨hp, y, jA, bA, M, iA⟩ := ok_row hok k;obtain ⟨U, o0, aj, Z, rfl, k2, -, -, H⟩ := set_at I y;obtain ⟨bj, p, A, rfl, n, d⟩ := slrd_at H O;have s := n;obtain ⟨ad, F, rfl, i1, i2, -, -, dA⟩ := way_rd n;have N := d 0 _ rfl;have L := d 1 _ rfl;have K := d 2 _ rfl;rw [show p + (fi * wayR.size + 0) = p + fi * 3 from rfl] at N;rw [show p + (fi * wayR.size + 1) = p + fi * 3 + 1 from rfl] at L;rw [show p + (fi * wayR.size + 2) = p + fi * 3 + 2 from rfl] at K;refine (l6Way_in b c i z U o0 bj p Z fi F ad k u.1 u.2.1 u.2.2 w hok I f k2 N L K).mono ?_;rintro e J ⟨rfl, r⟩;exact ⟨_, rfl, rd_next s r, r⟩
theorem way_nil {w W : World} {us : List Value} (h : wayR.rd w us emptyW) : wayR.rd W us emptyW := by
 obtain ⟨b, a, rfl, d, g, f, c, -⟩ := way_rd h;exact ⟨[_], [_, _], rfl, ⟨rfl, d⟩, [_], [_], rfl, ⟨rfl, g⟩, b, a, rfl, f, c, .inl rfl⟩
theorem core_cache {w : World} {u : CoreD} {v0 v1 v2 v3 v4 v5 v6 v7 v8 : Value} (h : coreR.rd w [v0, v1, v2, v3, v4, v5, v6, v7, v8] u) : cacheR.rd w [v0, v1] u.1 := by
 obtain ⟨z0, z1, z2, z5, z6, z7, z8, e, a, -⟩ := core_rd h;simp only [List.cons.injEq, and_true] at e;obtain ⟨rfl, rfl, -⟩ := e;exact a
theorem specWay_v (m : List Value) (c : CacheD) (k : Int) (w W : World) (hok : OkC isL treeB c) (h : cacheR.rd w m c) (hb : Below w.heap.size w W) :
    Calls Tryz.prog 103 #[aggV m, .int .i64 k] W fun e o => ∃ n, e = .returned (aggV n) ∧ (∀ W', Below w.heap.size w W' → wayR.rd W' n (wayOf c k)) ∧ Below W.heap.size W o := by
 cases f : atC c k with
 | none =>
  have A : wayOf c k = emptyW := by unfold wayOf; rw [f]
  refine (specWay_u m c k W hok (rd_next h hb)).mono ?_;rintro e o ⟨n, rfl, E, z⟩;refine ⟨n, rfl, fun W' _ => ?_, z⟩;rw [A] at E ⊢;exact way_nil E
 | some fi =>
  obtain ⟨a, p, b, M, rfl, l1, l2, m1, m2, D, h2⟩ := cache_rd h;obtain ⟨T, u, F, R⟩ := at_some f;have A : wayOf c k = u := by unfold wayOf; rw [f]; simp only; rw [List.getD_eq_getElem?_getD, F]; rfl
  rw [A];obtain ⟨hp, l, N, I, B, L⟩ := ok_row hok k;obtain ⟨G, S, aj, H, rfl, C, -, -, v⟩ := set_at D l;obtain ⟨O, i, m, rfl, g, d⟩ := slrd_at v F;have j := g;obtain ⟨K, r, rfl, i1, i2, -, -, J⟩ := way_rd g;have y := d 0 _ rfl;have s := d 1 _ rfl;have q := d 2 _ rfl;rw [show i + (fi * wayR.size + 0) = i + fi * 3 from rfl] at y;rw [show i + (fi * wayR.size + 1) = i + fi * 3 + 1 from rfl] at s;rw [show i + (fi * wayR.size + 2) = i + fi * 3 + 2 from rfl] at q;refine (l6Way_in b c p M G S O i H fi r K k u.1 u.2.1 u.2.2 W hok (slrd_next D hb) f (cell_keep hb C (cell_lt C)) (cell_keep hb y (cell_lt y)) (cell_keep hb s (cell_lt s)) (cell_keep hb q (cell_lt q))).mono ?_;rintro e o ⟨rfl, z⟩;exact ⟨_, rfl, fun W' hb' => rd_next j hb', z⟩
theorem l17Has_u (cs : List Value) (u : CoreD) (k : Int) (w W : World) (hok : OkC isL treeB u.1) (h : coreR.rd w cs u) (hb : Below w.heap.size w W) :
    Calls Tryz.prog 55 #[aggV cs, .int .i64 k] W fun e w' => ∃ D, e = .returned (aggV D) ∧ (∀ W', Below w.heap.size w W' → wayR.rd W' D (wayOf u.1 k)) ∧ Below W.heap.size W w' := by
 obtain ⟨d, l, f, i, r, s, n, A, p, q, rfl⟩ := core_shape h;have E : Hid _ := fun (V : World) (hv : Below w.heap.size w V) => specWay_v [.slice d u.1.1.length l, .slice f u.1.2.length i] u.1 k w V hok (core_cache h) hv;rw [show aggV _ = .agg _ from rfl];have X := heap_on (.cells #[.int .i64 0, .int .i64 0, .slice none 0 0] 88) (heap_at W (.cells #[.slice d u.1.1.length l, .slice f u.1.2.length i, .slice r u.2.1.length s, .int .i64 u.2.2.1, .int .i64 u.2.2.2.1, .int .i64 u.2.2.2.2.1.1, .int .i64 u.2.2.2.2.1.2.1, .slice n u.2.2.2.2.1.2.2.length A, .slice p u.2.2.2.2.2.length q] 95));have Y := heap_at (W.alloc (.cells #[.slice d u.1.1.length l, .slice f u.1.2.length i, .slice r u.2.1.length s, .int .i64 u.2.2.1, .int .i64 u.2.2.2.1, .int .i64 u.2.2.2.2.1.1, .int .i64 u.2.2.2.2.1.2.1, .slice n u.2.2.2.2.1.2.2.length A, .slice p u.2.2.2.2.2.length q] 95)) (.cells #[.int .i64 0, .int .i64 0, .slice none 0 0] 88);rw [alloc_len] at Y;have B := below_step (box_below W (.cells #[.slice d u.1.1.length l, .slice f u.1.2.length i, .slice r u.2.1.length s, .int .i64 u.2.2.1, .int .i64 u.2.2.2.1, .int .i64 u.2.2.2.2.1.1, .int .i64 u.2.2.2.2.1.2.1, .slice n u.2.2.2.2.1.2.2.length A, .slice p u.2.2.2.2.2.length q] 95)) (box_below _ (.cells #[.int .i64 0, .int .i64 0, .slice none 0 0] 88));have c : Hid _ := hb;have O := hb.size;clear h hok hb;go_enter Tryz.func55, Tryz.ntmps55;go_upto_region 1 with fail
 generalize (W.alloc (.cells #[.slice d u.1.1.length l, .slice f u.1.2.length i, .slice r u.2.1.length s, .int .i64 u.2.2.1, .int .i64 u.2.2.2.1, .int .i64 u.2.2.2.2.1.1, .int .i64 u.2.2.2.2.1.2.1, .slice n u.2.2.2.2.1.2.2.length A, .slice p u.2.2.2.2.2.length q] 95)).alloc (.cells #[.int .i64 0, .int .i64 0, .slice none 0 0] 88) = W0 at X Y B ⊢;obtain ⟨L, T, Z, R, S, M, x6, N, K⟩ := cells_core X;go_wp2_with fail
 clear L T Z R S M x6 N K X;refine (E.out _ (below_step c.out B)).mono ?_;rintro e F ⟨D, rfl, j, z⟩;clear E;have m := j F (below_step (below_step c.out B) z);obtain ⟨a, b, rfl, -, -, -, -, -⟩ := way_rd m;rw [show aggV _ = .agg _ from rfl];have yl := (ltH Y);replace Y := row_keep z Y;replace B := below_step B z;obtain ⟨y0, y1, y2⟩ := cells_three Y;obtain ⟨f0, f1, f2⟩ := froz_way Y;have G : Hid _ := And.intro Y (And.intro B j);clear Y B m z j;generalize C : wayOf u.1 k = y at G ⊢;go_wp2;obtain ⟨Y, B, j⟩ := G.out;have V := row_setCs (g := W.heap.size + 1) [.int .i64 y.1, .int .i64 y.2.1, .slice a y.2.2.length b] 0 Y;obtain ⟨I, J, U⟩ := cells_three (show (((F.setCell ⟨W.heap.size + 1, 0, none⟩ (.int .i64 y.1)).setCell ⟨W.heap.size + 1, 1, none⟩ (.int .i64 y.2.1)).setCell ⟨W.heap.size + 1, 2, none⟩ (.slice a y.2.2.length b)).heap[W.heap.size + 1]? = some (.cells #[.int .i64 y.1, .int .i64 y.2.1, .slice a y.2.2.length b] 88 (0, 0)) from V);have H := below_setCs0 (g := W.heap.size + 1) (o := 0) (vs := [.int .i64 y.1, .int .i64 y.2.1, .slice a y.2.2.length b]) B (by omega);refine bodyPost_ret (v := .agg #[.int .i64 y.1, .int .i64 y.2.1, .slice a y.2.2.length b]) (by simp [results, Tryz.results55, go_sem, I, J, U]) rfl ⟨[.int .i64 y.1, .int .i64 y.2.1, .slice a y.2.2.length b], rfl, fun W' hb' => by rw [C]; exact j W' hb', H⟩
theorem way_findI {c : CacheD} (h : OkC isL treeB c) (k : Int) : (findI c k).1 = wayOf c k := by
 unfold findI findC wayOf;rw [if_pos (okB_iff.2 h)];cases atC c k <;> rfl
theorem fab_code {x : FabricD} (h : fabI x = true) : codeI x.1.1 x.1.2.1 x.1.2.2.1 x.1.2.2.2 = 0 := by
 unfold fabI at h;simp only [Bool.and_eq_true, decide_eq_true_eq] at h;exact h.1
theorem own_u (cs : List Value) (u : CoreD) (k : Int) (w : World) (hok : OkC isL treeB u.1) (h : coreR.rd w cs u) :
    Calls Tryz.prog 77 #[aggV cs, .int .i64 k] w fun e w' => ∃ d, e = .returned (aggV d) ∧ MadeR wayR w w' d (wayOf u.1 k) := by
 obtain ⟨b, i, c, f, p, q, m, r, n, o, rfl⟩ := core_shape h;have A : Hid (∀ V, Below w.heap.size w V → Calls Tryz.prog 132 #[.agg #[.slice b u.1.1.length i, .slice c u.1.2.length f], .int .i64 k] V fun e w' => ∃ d, e = .returned (.tuple #[aggV d, .int .i64 (findI u.1 k).2]) ∧ MadeR wayR V w' d (wayOf u.1 k)) := fun V hv => by rw [← way_findI hok k]; exact implFindW_u [.slice b u.1.1.length i, .slice c u.1.2.length f] u.1 k V (rd_next (core_cache h) hv)
 rw [show aggV _ = .agg _ from rfl];have X := heap_on (.cells #[.int .i64 0, .int .i64 0, .slice none 0 0] 88) (heap_at w (.cells #[.slice b u.1.1.length i, .slice c u.1.2.length f, .slice p u.2.1.length q, .int .i64 u.2.2.1, .int .i64 u.2.2.2.1, .int .i64 u.2.2.2.2.1.1, .int .i64 u.2.2.2.2.1.2.1, .slice m u.2.2.2.2.1.2.2.length r, .slice n u.2.2.2.2.2.length o] 95));have Y := heap_at (w.alloc (.cells #[.slice b u.1.1.length i, .slice c u.1.2.length f, .slice p u.2.1.length q, .int .i64 u.2.2.1, .int .i64 u.2.2.2.1, .int .i64 u.2.2.2.2.1.1, .int .i64 u.2.2.2.2.1.2.1, .slice m u.2.2.2.2.1.2.2.length r, .slice n u.2.2.2.2.2.length o] 95)) (.cells #[.int .i64 0, .int .i64 0, .slice none 0 0] 88);rw [alloc_len] at Y;have B := below_step (box_below w (.cells #[.slice b u.1.1.length i, .slice c u.1.2.length f, .slice p u.2.1.length q, .int .i64 u.2.2.1, .int .i64 u.2.2.2.1, .int .i64 u.2.2.2.2.1.1, .int .i64 u.2.2.2.2.1.2.1, .slice m u.2.2.2.2.1.2.2.length r, .slice n u.2.2.2.2.2.length o] 95)) (box_below _ (.cells #[.int .i64 0, .int .i64 0, .slice none 0 0] 88));clear h hok;go_enter Tryz.func77, Tryz.ntmps77;go_upto_region 1 with fail
 generalize (w.alloc (.cells #[.slice b u.1.1.length i, .slice c u.1.2.length f, .slice p u.2.1.length q, .int .i64 u.2.2.1, .int .i64 u.2.2.2.1, .int .i64 u.2.2.2.2.1.1, .int .i64 u.2.2.2.2.1.2.1, .slice m u.2.2.2.2.1.2.2.length r, .slice n u.2.2.2.2.2.length o] 95)).alloc (.cells #[.int .i64 0, .int .i64 0, .slice none 0 0] 88) = W0 at X Y B ⊢;obtain ⟨F, O, S, L, N, G, T, J, D⟩ := cells_core X;go_wp2_with fail
 clear F O S L N G T J D X;refine (A.out _ B).mono ?_;rintro e E ⟨d, rfl, M⟩;clear A;obtain ⟨j, l, rfl, -, -, -, -, -⟩ := way_rd (wayR.own_rd M.1);rw [show aggV _ = .agg _ from rfl];have K := (ltH Y);replace Y := row_keep M.2 Y;generalize s : wayOf u.1 k = y at M ⊢;go_upto_region 2 with fail
 generalize a : E.alloc _ = w2;have Z := boxH a;have z := boxB a;clear a;replace Y := row_keep z Y;replace M := made_on M z;obtain ⟨z0, z1, z2⟩ := cells_three Z;obtain ⟨y0, y1, y2⟩ := cells_three Y;obtain ⟨f0, f1, f2⟩ := froz_way Y;have I : Hid _ := And.intro Y (And.intro B M);clear Y B M Z z;go_wp2;obtain ⟨Y, B, M⟩ := I.out;have V := row_setCs (g := w.heap.size + 1) [.int .i64 y.1, .int .i64 y.2.1, .slice j y.2.2.length l] 0 Y;obtain ⟨C, H, R⟩ := cells_three (show (((w2.setCell ⟨w.heap.size + 1, 0, none⟩ (.int .i64 y.1)).setCell ⟨w.heap.size + 1, 1, none⟩ (.int .i64 y.2.1)).setCell ⟨w.heap.size + 1, 2, none⟩ (.slice j y.2.2.length l)).heap[w.heap.size + 1]? = some (.cells #[.int .i64 y.1, .int .i64 y.2.1, .slice j y.2.2.length l] 88 (0, 0)) from V);refine bodyPost_ret (v := .agg #[.int .i64 y.1, .int .i64 y.2.1, .slice j y.2.2.length l]) (by simp [results, Tryz.results77, go_sem, C, H, R]) rfl ⟨[.int .i64 y.1, .int .i64 y.2.1, .slice j y.2.2.length l], rfl, by rw [s]; exact fin_made B M K (by omega)⟩
theorem event_shape1 {w : World} {cs : List Value} {u : EventD} (h : eventR.rd w cs u) : ∃ (ea : Option Addr) (ec : Nat), cs = [.int .i64 u.1, .int .i64 u.2.1.1, .int .i64 u.2.1.2.1, .int .i64 u.2.1.2.2.1, .int .i64 u.2.1.2.2.2, .int .i64 u.2.2.1, .int .i64 u.2.2.2.1, .slice ea u.2.2.2.2.1.length ec, .int .i64 u.2.2.2.2.2] ∧ u.2.2.2.2.1.length ≤ ec ∧ ec ≤ maxLen ∧ SlRd intR w ea u.2.2.2.2.1 := by
 obtain ⟨v1, v2, v3, v4, v7, rfl, -, r1, -, -, ⟨a, c, e, l1, l2, q⟩, -⟩ := event_rd h;obtain ⟨e1, -⟩ := op_rd4 r1;simp only [List.cons.injEq, and_true] at e1 e;obtain ⟨rfl, rfl, rfl, rfl⟩ := e1;obtain rfl := e;exact ⟨a, c, rfl, l1, l2, q⟩
theorem event_shape0 {w : World} {cs : List Value} {u : EventD} (h : eventR.rd w cs u) : ∃ (ea : Option Addr) (ec : Nat), cs = [.int .i64 u.1, .int .i64 u.2.1.1, .int .i64 u.2.1.2.1, .int .i64 u.2.1.2.2.1, .int .i64 u.2.1.2.2.2, .int .i64 u.2.2.1, .int .i64 u.2.2.2.1, .slice ea u.2.2.2.2.1.length ec, .int .i64 u.2.2.2.2.2] := by
 obtain ⟨a, c, e, -⟩ := event_shape1 h;exact ⟨a, c, e⟩
theorem idxFnEvent {p : EventD → Bool} {g : Nat} (a : Option Addr) (xs : List EventD) (cap : Nat) (w : World) (h : SlRd eventR w a xs) (hm : xs.length ≤ maxLen) (HP : ∀ (x : EventD) (cs : List Value) (W : World), x ∈ xs → Below w.heap.size w W → eventR.rd W cs x → Calls Tryz.prog 191 #[aggV cs, .pointer (some ⟨g, 0, none⟩)] W fun e w' => e = .returned (.bool (!p x)) ∧ Below W.heap.size W w') :
    Calls Tryz.prog 230 #[.slice a xs.length cap, .func (.func 191) #[] #[.pointer (some ⟨g, 0, none⟩)]] w fun e w' => e = .returned (.int .i64 (badP p xs)) ∧ Below w.heap.size w w' := by
 have hm' : xs.length ≤ 9223372036854775807 := hm;have H0 : Hid (∀ W, Below w.heap.size w W → SlRd eventR W a xs) := fun W hb => slrd_keep h fun k hk => hb.block k hk;have HPP : Hid _ := HP;clear h hm HP;go_enter Tryz.func230, Tryz.ntmps230;go_wp2;go_loopw [8] (fun i wr => ∃ k : Nat, k ≤ xs.length ∧ i = .int .i64 k ∧ (∀ j v, j < k → xs[j]? = some v → p v = true) ∧ Below w.heap.size w wr) (fun i _ => xs.length - (intOf i).toNat)
 case atStart => exact ⟨0, Nat.zero_le _, rfl, fun j v hj => by omega, Below.refl _ _⟩
 case round =>
  obtain ⟨k, hk, rfl, hno, BB⟩ := hrel;by_cases hlt : k < xs.length
  ·have hlt' : (k : Int) < (xs.length : Int) := by omega
   obtain ⟨x, hx⟩ : ∃ x, xs[k]? = some x := ⟨_, List.getElem?_eq_getElem hlt⟩;obtain ⟨b, off, cs, rfl, hrdx, hcell⟩ := slrd_at (H0.out _ BB) hx;have HC := HPP.out x cs wr (List.mem_of_getElem? hx) BB hrdx;obtain ⟨ga, gc, rfl⟩ := event_shape0 hrdx;rw [show aggV [.int .i64 x.1, .int .i64 x.2.1.1, .int .i64 x.2.1.2.1, .int .i64 x.2.1.2.2.1, .int .i64 x.2.1.2.2.2, .int .i64 x.2.2.1, .int .i64 x.2.2.2.1, .slice ga x.2.2.2.2.1.length gc, .int .i64 x.2.2.2.2.2] = .agg #[.int .i64 x.1, .int .i64 x.2.1.1, .int .i64 x.2.1.2.1, .int .i64 x.2.1.2.2.1, .int .i64 x.2.1.2.2.2, .int .i64 x.2.2.1, .int .i64 x.2.2.2.1, .slice ga x.2.2.2.2.1.length gc, .int .i64 x.2.2.2.2.2] from rfl] at HC;obtain ⟨x0, x1, x2, x3, x4, x5, x6, x7, x8⟩ := cellsAt9 hcell rfl;have HX : Hid (xs[k]? = some x) := hx;clear hx hcell hrdx;cases hb : p x
   ·have HR : Hid (badP p xs = k) := badP_at HX.out hb hno;rw [hb] at HC;go_wp2_with fail
    refine HC.mono ?_;rintro e w2 ⟨rfl, b2⟩;replace BB := below_step BB b2;clear b2 x0 x1 x2 x3 x4 x5 x6 x7 x8;go_wp2;go_ret
    exact ⟨ret_int HR.out.symm, BB⟩
   ·rw [hb] at HC;go_wp2_with fail
    refine HC.mono ?_;rintro e w2 ⟨rfl, b2⟩;replace BB := below_step BB b2;clear b2 x0 x1 x2 x3 x4 x5 x6 x7 x8;go_wp2;go_roundw
    case rel =>
     refine ⟨k + 1, by omega, by go_num, fun j v hj hv => ?_, BB⟩;by_cases he : j < k
     ·exact hno j v he hv
     ·have : j = k := by omega
      subst this;rw [HX.out] at hv;cases hv;exact hb
    case measure => simp [intOf]; omega
  ·have HR : Hid (badP p xs = -1) := badP_no fun j v hv => hno j v (by have := (List.getElem?_eq_some_iff.1 hv).1; omega) hv;go_wp2;go_ret
   exact ⟨ret_int HR.out.symm, BB⟩
theorem conFnEvent {p : EventD → Bool} {g : Nat} (a : Option Addr) (xs : List EventD) (cap : Nat) (w : World) (h : SlRd eventR w a xs) (hm : xs.length ≤ maxLen) (HP : ∀ (x : EventD) (cs : List Value) (W : World), x ∈ xs → Below w.heap.size w W → eventR.rd W cs x → Calls Tryz.prog 191 #[aggV cs, .pointer (some ⟨g, 0, none⟩)] W fun e w' => e = .returned (.bool (!p x)) ∧ Below W.heap.size W w') :
    Calls Tryz.prog 190 #[.slice a xs.length cap, .func (.func 191) #[] #[.pointer (some ⟨g, 0, none⟩)]] w fun e w' => e = .returned (.bool (!xs.all p)) ∧ Below w.heap.size w w' := by
 have HI := idxFnEvent a xs cap w h hm HP;have hab := badP_all p xs;clear h hm HP;generalize badP p xs = q at HI hab;generalize xs.all p = y at hab ⊢;subst hab;by_cases hq : q < 0
 ·have hq2 : ¬ (0 ≤ q) := by omega
  go_enter Tryz.func190, Tryz.ntmps190;go_wp2_with fail
  refine HI.mono ?_;rintro e w1 ⟨rfl, b1⟩;go_wp2;go_ret
  exact ⟨by simp [hq], b1⟩
 ·have hq2 : 0 ≤ q := by omega
  go_enter Tryz.func190, Tryz.ntmps190;go_wp2_with fail
  refine HI.mono ?_;rintro e w1 ⟨rfl, b1⟩;go_wp2;go_ret
  exact ⟨by simp [hq], b1⟩
theorem closFitEvent {q : Bool} {g : Nat} (x : EventD) (cs : List Value) (w : World) (h : eventR.rd w cs x) (hg : w.heap[g]? = some (.cells #[.func (.func 131) #[] #[]] 149 (0, 0)))
    (HF : ∀ W, Below w.heap.size w W → Calls Tryz.prog 131 #[aggV cs] W fun e w' => e = .returned (.bool q) ∧ Below W.heap.size W w') :
    Calls Tryz.prog 191 #[aggV cs, .pointer (some ⟨g, 0, none⟩)] w fun e w' => e = .returned (.bool (!q)) ∧ Below w.heap.size w w' := by
 obtain ⟨ga, gc, rfl⟩ := event_shape0 h;rw [show aggV [.int .i64 x.1, .int .i64 x.2.1.1, .int .i64 x.2.1.2.1, .int .i64 x.2.1.2.2.1, .int .i64 x.2.1.2.2.2, .int .i64 x.2.2.1, .int .i64 x.2.2.2.1, .slice ga x.2.2.2.2.1.length gc, .int .i64 x.2.2.2.2.2] = .agg #[.int .i64 x.1, .int .i64 x.2.1.1, .int .i64 x.2.1.2.1, .int .i64 x.2.1.2.2.1, .int .i64 x.2.1.2.2.2, .int .i64 x.2.2.1, .int .i64 x.2.2.2.1, .slice ga x.2.2.2.2.1.length gc, .int .i64 x.2.2.2.2.2] from rfl] at HF ⊢;have B := box_below w (.cells #[.int .i64 x.1, .int .i64 x.2.1.1, .int .i64 x.2.1.2.1, .int .i64 x.2.1.2.2.1, .int .i64 x.2.1.2.2.2, .int .i64 x.2.2.1, .int .i64 x.2.2.2.1, .slice ga x.2.2.2.2.1.length gc, .int .i64 x.2.2.2.2.2] 123);have G := row_keep B hg;have HFF : Hid _ := HF;clear h hg HF;go_enter Tryz.func191, Tryz.ntmps191;go_upto_region 1 with fail
 have X := heap_at w (.cells #[.int .i64 x.1, .int .i64 x.2.1.1, .int .i64 x.2.1.2.1, .int .i64 x.2.1.2.2.1, .int .i64 x.2.1.2.2.2, .int .i64 x.2.2.1, .int .i64 x.2.2.2.1, .slice ga x.2.2.2.2.1.length gc, .int .i64 x.2.2.2.2.2] 123);generalize w.alloc (.cells #[.int .i64 x.1, .int .i64 x.2.1.1, .int .i64 x.2.1.2.1, .int .i64 x.2.1.2.2.1, .int .i64 x.2.1.2.2.2, .int .i64 x.2.2.1, .int .i64 x.2.2.2.1, .slice ga x.2.2.2.2.1.length gc, .int .i64 x.2.2.2.2.2] 123) = W0 at B G X ⊢;have g0 : W0.cell? ⟨g, 0, none⟩ = some (.func (.func 131) #[] #[]) := by rw [cell_of_row W0 g 0 _ _ (0, 0) G]; rfl
 obtain ⟨y0, y1, y2, y3, y4, y5, y6, y7, y8⟩ := cells_core X;clear G X;go_wp2_with fail
 refine (HFF.out _ B).mono ?_;rintro e w1 ⟨rfl, b1⟩;replace B := below_step B b1;clear g0 b1 y0 y1 y2 y3 y4 y5 y6 y7 y8;go_wp2;go_ret
 exact ⟨rfl, B⟩
theorem allFitEvent {p : EventD → Bool} (a : Option Addr) (xs : List EventD) (cap : Nat) (w : World) (h : SlRd eventR w a xs) (hm : xs.length ≤ maxLen)
    (HF : ∀ (x : EventD) (cs : List Value) (W : World), x ∈ xs → Below w.heap.size w W → eventR.rd W cs x → Calls Tryz.prog 131 #[aggV cs] W fun e w' => e = .returned (.bool (p x)) ∧ Below W.heap.size W w') :
    Calls Tryz.prog 130 #[.slice a xs.length cap, .func (.func 131) #[] #[]] w fun e w' => e = .returned (.bool (xs.all p)) ∧ Below w.heap.size w w' := by
 have B := box_below w (.cells #[.func (.func 131) #[] #[]] 149);have G := heap_at w (.cells #[.func (.func 131) #[] #[]] 149);have HC := conFnEvent (p := p) (g := w.heap.size) a xs cap (w.alloc (.cells #[.func (.func 131) #[] #[]] 149)) (slrd_next h B) hm (fun x cs W hx hb hr => closFitEvent x cs W hr (row_keep hb G) (fun W2 hb2 => HF x cs W2 hx (below_step (below_step B hb) hb2) (rd_next hr hb2)));clear h hm HF G;generalize xs.all p = y at HC ⊢;go_enter Tryz.func130, Tryz.ntmps130;go_wp2_with fail
 refine HC.mono ?_;rintro e w1 ⟨rfl, b1⟩;replace B := below_step B b1;clear b1;go_wp2;go_ret
 exact ⟨by simp, B⟩
end Go.Proofs.YtcocbafhcpdheaaGreatDoor
