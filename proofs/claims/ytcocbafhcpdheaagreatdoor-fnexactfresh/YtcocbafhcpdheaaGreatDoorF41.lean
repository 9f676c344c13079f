import Derived.Test.YtcocbafhcpdheaaGreatDoorF00Box
import Derived.Test.YtcocbafhcpdheaaGreatDoorF40
namespace Go.Proofs.YtcocbafhcpdheaaGreatDoor
set_option maxHeartbeats 4000000
set_option maxRecDepth 20000
open Go.ChangeShapes Go.WideShapes Go.ChangeAt Go.RowKit
set_option linter.unusedVariables false
set_option linter.unusedSimpArgs false
theorem way_findI {c : CacheD} (h : OkC isL treeB c) (k : Int) : (findI c k).1 = wayOf c k := by
 unfold findI findC wayOf;rw [if_pos (okB_iff.2 h)];cases atC c k <;> rfl
theorem way_rng4 {c : CacheD} (h : OkC isL treeB c) (k : Int) : betw (wayOf c k).2.1 0 3 = true ∧ clearB (wayOf c k) = decide ((wayOf c k).2.1 = 0) := by
 cases hat : atC c k with
 | none =>
  have hw : wayOf c k = emptyW := by unfold wayOf; rw [hat]
  rw [hw];exact ⟨rfl, rfl⟩
 | some fi =>
  obtain ⟨hl0, u, hu, hul⟩ := at_some hat;have hw : wayOf c k = u := by unfold wayOf; rw [hat]; simp only; rw [List.getD_eq_getElem?_getD, hu]; rfl
  rw [hw];obtain ⟨hp, hget, -⟩ := ok_row h k;obtain ⟨-, -, m, -, h3⟩ := h;rcases (h3 _ _ hget).2.2.1 _ _ hu with hc | ⟨hc, -⟩
  ·have hc' := hc;unfold clearB at hc';simp only [decide_eq_true_eq] at hc';rw [hc, hc'.2.1];exact ⟨rfl, rfl⟩
  ·unfold fullB at hc;simp only [decide_eq_true_eq] at hc;obtain ⟨⟨p0, -⟩, ⟨p1, p2⟩, -⟩ := hc;refine ⟨by simp [betw]; omega, ?_⟩;unfold clearB;rw [decide_eq_false (by omega), decide_eq_false (by omega)]
theorem fab_coreB {x : FabricD} (h : fabI x = true) {u : CoreD} (hu : u ∈ x.2.2.1) : coreB u = true := by
 unfold fabI at h;simp only [Bool.and_eq_true, decide_eq_true_eq] at h;obtain ⟨hc, -, hk, -⟩ := h;unfold coresFit at hk;simp only [Bool.and_eq_true, decide_eq_true_eq] at hk;have q := List.all_eq_true.1 hk.2 u hu;unfold coreFit at q;simp only [Bool.and_eq_true, decide_eq_true_eq] at q;exact q.1
theorem own_u (cs : List Value) (u : CoreD) (k : Int) (w : World) (hok : OkC isL treeB u.1) (h : coreR.rd w cs u) :
    Calls Tryz.prog 77 #[aggV cs, .int .i64 k] w fun e w' => ∃ us, e = .returned (aggV us) ∧ MadeR wayR w w' us (wayOf u.1 k) := by
 obtain ⟨ga, gc, gb, gd, ha, hc, ia, ic, ja, jc, rfl⟩ := core_shape h;have HW : Hid (∀ V, Below w.heap.size w V → Calls Tryz.prog 132 #[.agg #[.slice ga u.1.1.length gc, .slice gb u.1.2.length gd], .int .i64 k] V fun e w' => ∃ us, e = .returned (.tuple #[aggV us, .int .i64 (findI u.1 k).2]) ∧ MadeR wayR V w' us (wayOf u.1 k)) := fun V hv => by rw [← way_findI hok k]; exact implFindW_u [.slice ga u.1.1.length gc, .slice gb u.1.2.length gd] u.1 k V (rd_next (core_cache h) hv)
 rw [show aggV _ = .agg _ from rfl];have X := heap_on (.cells #[.int .i64 0, .int .i64 0, .slice none 0 0] 88) (heap_at w (.cells #[.slice ga u.1.1.length gc, .slice gb u.1.2.length gd, .slice ha u.2.1.length hc, .int .i64 u.2.2.1, .int .i64 u.2.2.2.1, .int .i64 u.2.2.2.2.1.1, .int .i64 u.2.2.2.2.1.2.1, .slice ia u.2.2.2.2.1.2.2.length ic, .slice ja u.2.2.2.2.2.length jc] 95));have Y := heap_at (w.alloc (.cells #[.slice ga u.1.1.length gc, .slice gb u.1.2.length gd, .slice ha u.2.1.length hc, .int .i64 u.2.2.1, .int .i64 u.2.2.2.1, .int .i64 u.2.2.2.2.1.1, .int .i64 u.2.2.2.2.1.2.1, .slice ia u.2.2.2.2.1.2.2.length ic, .slice ja u.2.2.2.2.2.length jc] 95)) (.cells #[.int .i64 0, .int .i64 0, .slice none 0 0] 88);rw [alloc_len] at Y;have B := below_step (box_below w (.cells #[.slice ga u.1.1.length gc, .slice gb u.1.2.length gd, .slice ha u.2.1.length hc, .int .i64 u.2.2.1, .int .i64 u.2.2.2.1, .int .i64 u.2.2.2.2.1.1, .int .i64 u.2.2.2.2.1.2.1, .slice ia u.2.2.2.2.1.2.2.length ic, .slice ja u.2.2.2.2.2.length jc] 95)) (box_below _ (.cells #[.int .i64 0, .int .i64 0, .slice none 0 0] 88));clear h hok;go_enter Tryz.func77, Tryz.ntmps77;go_upto_region 1 with fail
 generalize (w.alloc (.cells #[.slice ga u.1.1.length gc, .slice gb u.1.2.length gd, .slice ha u.2.1.length hc, .int .i64 u.2.2.1, .int .i64 u.2.2.2.1, .int .i64 u.2.2.2.2.1.1, .int .i64 u.2.2.2.2.1.2.1, .slice ia u.2.2.2.2.1.2.2.length ic, .slice ja u.2.2.2.2.2.length jc] 95)).alloc (.cells #[.int .i64 0, .int .i64 0, .slice none 0 0] 88) = W0 at X Y B ⊢;obtain ⟨x0, x1, x2, x3, x4, x5, x6, x7, x8⟩ := cells_core X;go_wp2_with fail
 clear x0 x1 x2 x3 x4 x5 x6 x7 x8 X;refine (HW.out _ B).mono ?_;rintro e w1 ⟨us, rfl, M⟩;clear HW;obtain ⟨ea, ec, rfl, -, -, -, -, -⟩ := way_rd (wayR.own_rd M.1);rw [show aggV _ = .agg _ from rfl];have yl := (ltH Y);replace Y := row_keep M.2 Y;generalize hwy : wayOf u.1 k = y at M ⊢;go_upto_region 2 with fail
 generalize hw2 : w1.alloc _ = w2;have Z := boxH hw2;have BZ := boxB hw2;clear hw2;replace Y := row_keep BZ Y;replace M := made_on M BZ;obtain ⟨z0, z1, z2⟩ := cells_three Z;obtain ⟨y0, y1, y2⟩ := cells_three Y;obtain ⟨f0, f1, f2⟩ := froz_way Y;have HZ : Hid _ := And.intro Y (And.intro B M);clear Y B M Z BZ;go_wp2;obtain ⟨Y, B, M⟩ := HZ.out;have V := row_setCs (g := w.heap.size + 1) [.int .i64 y.1, .int .i64 y.2.1, .slice ea y.2.2.length ec] 0 Y;obtain ⟨r0, r1, r2⟩ := cells_three (show (((w2.setCell ⟨w.heap.size + 1, 0, none⟩ (.int .i64 y.1)).setCell ⟨w.heap.size + 1, 1, none⟩ (.int .i64 y.2.1)).setCell ⟨w.heap.size + 1, 2, none⟩ (.slice ea y.2.2.length ec)).heap[w.heap.size + 1]? = some (.cells #[.int .i64 y.1, .int .i64 y.2.1, .slice ea y.2.2.length ec] 88 (0, 0)) from V);refine bodyPost_ret (v := .agg #[.int .i64 y.1, .int .i64 y.2.1, .slice ea y.2.2.length ec]) (by simp [results, Tryz.results77, go_sem, r0, r1, r2]) rfl ⟨[.int .i64 y.1, .int .i64 y.2.1, .slice ea y.2.2.length ec], rfl, by rw [hwy]; exact fin_made B M yl (by omega)⟩
def wayT (x : FabricD) (o k : Int) : Option (List Int) := (x.2.2.2.2.1.find? (msgT o k)).map fun m => m.2.2.2.2.2.1
def ownT (x : FabricD) (o k : Int) (u : CoreD) : Option (List Int) := if heldB k u = true then some u.2.2.2.2.1.2.2 else wayT x o k
theorem held_rng {u : CoreD} (h : coreB u = true) : betw u.2.2.2.2.1.2.1 0 3 = true := by
 unfold coreB at h;simp only [Bool.and_eq_true] at h;have q := h.2.2.2.2.2.2.2;unfold restC at q;split at q
 ·simp only [Bool.and_eq_true, Bool.or_eq_true] at q;rcases q.1 with g | g
  ·unfold goneB at g;simp only [Bool.and_eq_true, decide_eq_true_eq] at g;rw [g.2.1];rfl
  ·unfold fullB at g;simp only [decide_eq_true_eq] at g;simp [betw]
   omega
 ·unfold clearB at q;simp only [decide_eq_true_eq] at q;rw [q.2.1];rfl
theorem fab_owner {x : FabricD} (h : fabI x = true) {e : EntryD} (he : e ∈ x.2.1.2) : -1 ≤ e.1 := by
 unfold fabI at h;simp only [Bool.and_eq_true, decide_eq_true_eq] at h;obtain ⟨hc, hh, -⟩ := h;unfold houseFit houseB at hh;simp only [Bool.and_eq_true, decide_eq_true_eq] at hh;have q := List.all_eq_true.1 hh.1.2.2 e he;unfold entB whoB at q;simp only [Bool.and_eq_true, betw, decide_eq_true_eq] at q;exact q.1.1.1
theorem fab_from {x : FabricD} (h : fabI x = true) {m : MsgD} (hm : m ∈ x.2.2.2.2.1) : m.2.1 ≠ -1 := by
 unfold fabI at h;simp only [Bool.and_eq_true, decide_eq_true_eq] at h;obtain ⟨hc, hh, hk, hd, hn, -⟩ := h;unfold netFit at hn;simp only [Bool.and_eq_true] at hn;have q := List.all_eq_true.1 hn.2 m hm;unfold msgIn agentIn coreIn betw at q;simp only [Bool.and_eq_true, Bool.or_eq_true, decide_eq_true_eq] at q;omega
theorem rest_way (x : FabricD) (o k : Int) : restT x o k = (wayT x o k).getD (x.2.1.1.getD k.toNat []) := by
 unfold restT wayT;cases x.2.2.2.2.1.find? (msgT o k) <;> rfl
theorem held_no {x : FabricD} (h : fabI x = true) (k : Int) : heldT x (-1) k = x.2.1.1.getD k.toNat [] := by
 unfold heldT;rw [if_neg (by decide), rest_way];have e : wayT x (-1) k = none := by
  unfold wayT;rw [find_no fun i v hv => ?_]
  ·rfl
  ·have := fab_from h (List.mem_of_getElem? hv);unfold msgT;rw [decide_eq_false this];simp
 rw [e];rfl
theorem held_own {x : FabricD} {on : Nat} {k : Int} {u : CoreD} (hu : x.2.2.1[on]? = some u) : heldT x on k = (ownT x on k u).getD (x.2.1.1.getD k.toNat []) := by
 unfold heldT ownT;rw [if_pos (by omega), Int.toNat_natCast, hu];simp only
 cases heldB k u
 ·simp only [Bool.false_eq_true, if_false];exact rest_way x on k
 ·rfl
theorem msgT_eq (o k : Int) (m : MsgD) : msgT o k m = (decide (m.2.1 = o) && (decide (m.2.2.2.2.1 = k) && ((decide (m.2.2.2.1 = 8) || decide (m.2.2.2.1 = 3)) && decide (¬ (m.2.2.2.2.2.1.length : Int) = 0)))) := by
 unfold msgT;rw [show decide (0 < m.2.2.2.2.2.1.length) = decide (¬ (m.2.2.2.2.2.1.length : Int) = 0) from decide_eq_decide.2 (by omega)];cases decide (m.2.1 = o) <;> cases decide (m.2.2.2.2.1 = k) <;> cases decide (m.2.2.2.1 = 8) <;> cases decide (m.2.2.2.1 = 3) <;> cases decide (¬ (m.2.2.2.2.2.1.length : Int) = 0) <;> rfl
theorem event_shape1 {w : World} {cs : List Value} {u : EventD} (h : eventR.rd w cs u) : ∃ (ea : Option Addr) (ec : Nat), cs = [.int .i64 u.1, .int .i64 u.2.1.1, .int .i64 u.2.1.2.1, .int .i64 u.2.1.2.2.1, .int .i64 u.2.1.2.2.2, .int .i64 u.2.2.1, .int .i64 u.2.2.2.1, .slice ea u.2.2.2.2.1.length ec, .int .i64 u.2.2.2.2.2] ∧ u.2.2.2.2.1.length ≤ ec ∧ ec ≤ maxLen ∧ SlRd intR w ea u.2.2.2.2.1 := by
 obtain ⟨v1, v2, v3, v4, v7, rfl, -, r1, -, -, ⟨a, c, e, l1, l2, q⟩, -⟩ := event_rd h;obtain ⟨e1, -⟩ := op_rd4 r1;simp only [List.cons.injEq, and_true] at e1 e;obtain ⟨rfl, rfl, rfl, rfl⟩ := e1;obtain rfl := e;exact ⟨a, c, rfl, l1, l2, q⟩
theorem event_shape0 {w : World} {cs : List Value} {u : EventD} (h : eventR.rd w cs u) : ∃ (ea : Option Addr) (ec : Nat), cs = [.int .i64 u.1, .int .i64 u.2.1.1, .int .i64 u.2.1.2.1, .int .i64 u.2.1.2.2.1, .int .i64 u.2.1.2.2.2, .int .i64 u.2.2.1, .int .i64 u.2.2.2.1, .slice ea u.2.2.2.2.1.length ec, .int .i64 u.2.2.2.2.2] := by
 obtain ⟨a, c, e, -⟩ := event_shape1 h;exact ⟨a, c, e⟩
theorem idxFnEvent {p : EventD → Bool} {g : Nat} (a : Option Addr) (xs : List EventD) (cap : Nat) (w : World) (h : SlRd eventR w a xs) (hm : xs.length ≤ maxLen) (HP : ∀ (x : EventD) (cs : List Value) (W : World), x ∈ xs → Below w.heap.size w W → eventR.rd W cs x → Calls Tryz.prog 191 #[aggV cs, .pointer (some ⟨g, 0, none⟩)] W fun e w' => e = .returned (.bool (!p x)) ∧ Below W.heap.size W w') :
    Calls Tryz.prog 230 #[.slice a xs.length cap, .func (.func 191) #[] #[.pointer (some ⟨g, 0, none⟩)]] w fun e w' => e = .returned (.int .i64 (badP p xs)) ∧ Below w.heap.size w w' := by
 have hm' : xs.length ≤ 9223372036854775807 := hm;have H0 : Hid (∀ W, Below w.heap.size w W → SlRd eventR W a xs) := fun W hb => slrd_keep h fun k hk => hb.block k hk;have HPP : Hid _ := HP;clear h hm HP;go_enter Tryz.func230, Tryz.ntmps230;go_wp2;go_loopw [8] (fun i wr => ∃ k : Nat, k ≤ xs.length ∧ i = .int .i64 k ∧ (∀ j v, j < k → xs[j]? = some v → p v = true) ∧ Below w.heap.size w wr) (fun i _ => xs.length - (intOf i).toNat)
 case atStart => exact ⟨0, Nat.zero_le _, rfl, fun j v hj => by omega, Below.refl _ _⟩
 case round =>
  obtain ⟨k, hk, rfl, hno, BB⟩ := hrel;by_cases hlt : k < xs.length
  ·have hlt' : (k : Int) < (xs.length : Int) := by omega
   obtain ⟨x, hx⟩ : ∃ x, xs[k]? = some x := ⟨_, List.getElem?_eq_getElem hlt⟩;obtain ⟨b, off, cs, rfl, hrdx, hcell⟩ := slrd_at (H0.out _ BB) hx;have HC := HPP.out x cs wr (List.mem_of_getElem? hx) BB hrdx;obtain ⟨ga, gc, rfl⟩ := event_shape0 hrdx;rw [show aggV [.int .i64 x.1, .int .i64 x.2.1.1, .int .i64 x.2.1.2.1, .int .i64 x.2.1.2.2.1, .int .i64 x.2.1.2.2.2, .int .i64 x.2.2.1, .int .i64 x.2.2.2.1, .slice ga x.2.2.2.2.1.length gc, .int .i64 x.2.2.2.2.2] = .agg #[.int .i64 x.1, .int .i64 x.2.1.1, .int .i64 x.2.1.2.1, .int .i64 x.2.1.2.2.1, .int .i64 x.2.1.2.2.2, .int .i64 x.2.2.1, .int .i64 x.2.2.2.1, .slice ga x.2.2.2.2.1.length gc, .int .i64 x.2.2.2.2.2] from rfl] at HC;obtain ⟨x0, x1, x2, x3, x4, x5, x6, x7, x8⟩ := cellsAt9 hcell rfl;have HX : Hid (xs[k]? = some x) := hx;clear hx hcell hrdx;cases hb : p x
   ·have HR : Hid (badP p xs = k) := badP_at HX.out hb hno;rw [hb] at HC;go_wp2_with fail
    refine HC.mono ?_;rintro e w2 ⟨rfl, b2⟩;replace BB := below_step BB b2;clear b2 x0 x1 x2 x3 x4 x5 x6 x7 x8;go_wp2;go_ret
    exact ⟨ret_int HR.out.symm, BB⟩
   ·rw [hb] at HC;go_wp2_with fail
    refine HC.mono ?_;rintro e w2 ⟨rfl, b2⟩;replace BB := below_step BB b2;clear b2 x0 x1 x2 x3 x4 x5 x6 x7 x8;go_wp2;go_roundw
    case rel =>
     refine ⟨k + 1, by omega, by go_num, fun j v hj hv => ?_, BB⟩;by_cases he : j < k
     ·exact hno j v he hv
     ·have : j = k := by omega
      subst this;rw [HX.out] at hv;cases hv;exact hb
    case measure => simp [intOf]; omega
  ·have HR : Hid (badP p xs = -1) := badP_no fun j v hv => hno j v (by have := (List.getElem?_eq_some_iff.1 hv).1; omega) hv;go_wp2;go_ret
   exact ⟨ret_int HR.out.symm, BB⟩
theorem conFnEvent {p : EventD → Bool} {g : Nat} (a : Option Addr) (xs : List EventD) (cap : Nat) (w : World) (h : SlRd eventR w a xs) (hm : xs.length ≤ maxLen) (HP : ∀ (x : EventD) (cs : List Value) (W : World), x ∈ xs → Below w.heap.size w W → eventR.rd W cs x → Calls Tryz.prog 191 #[aggV cs, .pointer (some ⟨g, 0, none⟩)] W fun e w' => e = .returned (.bool (!p x)) ∧ Below W.heap.size W w') :
    Calls Tryz.prog 190 #[.slice a xs.length cap, .func (.func 191) #[] #[.pointer (some ⟨g, 0, none⟩)]] w fun e w' => e = .returned (.bool (!xs.all p)) ∧ Below w.heap.size w w' := by
 have HI := idxFnEvent a xs cap w h hm HP;have hab := badP_all p xs;clear h hm HP;generalize badP p xs = q at HI hab;generalize xs.all p = y at hab ⊢;subst hab;by_cases hq : q < 0
 ·have hq2 : ¬ (0 ≤ q) := by omega
  go_enter Tryz.func190, Tryz.ntmps190;go_wp2_with fail
  refine HI.mono ?_;rintro e w1 ⟨rfl, b1⟩;go_wp2;go_ret
  exact ⟨by simp [hq], b1⟩
 ·have hq2 : 0 ≤ q := by omega
  go_enter Tryz.func190, Tryz.ntmps190;go_wp2_with fail
  refine HI.mono ?_;rintro e w1 ⟨rfl, b1⟩;go_wp2;go_ret
  exact ⟨by simp [hq], b1⟩
theorem closFitEvent {q : Bool} {g : Nat} (x : EventD) (cs : List Value) (w : World) (h : eventR.rd w cs x) (hg : w.heap[g]? = some (.cells #[.func (.func 131) #[] #[]] 149 (0, 0)))
    (HF : ∀ W, Below w.heap.size w W → Calls Tryz.prog 131 #[aggV cs] W fun e w' => e = .returned (.bool q) ∧ Below W.heap.size W w') :
    Calls Tryz.prog 191 #[aggV cs, .pointer (some ⟨g, 0, none⟩)] w fun e w' => e = .returned (.bool (!q)) ∧ Below w.heap.size w w' := by
 obtain ⟨ga, gc, rfl⟩ := event_shape0 h;rw [show aggV [.int .i64 x.1, .int .i64 x.2.1.1, .int .i64 x.2.1.2.1, .int .i64 x.2.1.2.2.1, .int .i64 x.2.1.2.2.2, .int .i64 x.2.2.1, .int .i64 x.2.2.2.1, .slice ga x.2.2.2.2.1.length gc, .int .i64 x.2.2.2.2.2] = .agg #[.int .i64 x.1, .int .i64 x.2.1.1, .int .i64 x.2.1.2.1, .int .i64 x.2.1.2.2.1, .int .i64 x.2.1.2.2.2, .int .i64 x.2.2.1, .int .i64 x.2.2.2.1, .slice ga x.2.2.2.2.1.length gc, .int .i64 x.2.2.2.2.2] from rfl] at HF ⊢;have B := box_below w (.cells #[.int .i64 x.1, .int .i64 x.2.1.1, .int .i64 x.2.1.2.1, .int .i64 x.2.1.2.2.1, .int .i64 x.2.1.2.2.2, .int .i64 x.2.2.1, .int .i64 x.2.2.2.1, .slice ga x.2.2.2.2.1.length gc, .int .i64 x.2.2.2.2.2] 123);have G := row_keep B hg;have HFF : Hid _ := HF;clear h hg HF;go_enter Tryz.func191, Tryz.ntmps191;go_upto_region 1 with fail
 have X := heap_at w (.cells #[.int .i64 x.1, .int .i64 x.2.1.1, .int .i64 x.2.1.2.1, .int .i64 x.2.1.2.2.1, .int .i64 x.2.1.2.2.2, .int .i64 x.2.2.1, .int .i64 x.2.2.2.1, .slice ga x.2.2.2.2.1.length gc, .int .i64 x.2.2.2.2.2] 123);generalize w.alloc (.cells #[.int .i64 x.1, .int .i64 x.2.1.1, .int .i64 x.2.1.2.1, .int .i64 x.2.1.2.2.1, .int .i64 x.2.1.2.2.2, .int .i64 x.2.2.1, .int .i64 x.2.2.2.1, .slice ga x.2.2.2.2.1.length gc, .int .i64 x.2.2.2.2.2] 123) = W0 at B G X ⊢;have g0 : W0.cell? ⟨g, 0, none⟩ = some (.func (.func 131) #[] #[]) := by rw [cell_of_row W0 g 0 _ _ (0, 0) G]; rfl
 obtain ⟨y0, y1, y2, y3, y4, y5, y6, y7, y8⟩ := cells_core X;clear G X;go_wp2_with fail
 refine (HFF.out _ B).mono ?_;rintro e w1 ⟨rfl, b1⟩;replace B := below_step B b1;clear g0 b1 y0 y1 y2 y3 y4 y5 y6 y7 y8;go_wp2;go_ret
 exact ⟨rfl, B⟩
theorem allFitEvent {p : EventD → Bool} (a : Option Addr) (xs : List EventD) (cap : Nat) (w : World) (h : SlRd eventR w a xs) (hm : xs.length ≤ maxLen)
    (HF : ∀ (x : EventD) (cs : List Value) (W : World), x ∈ xs → Below w.heap.size w W → eventR.rd W cs x → Calls Tryz.prog 131 #[aggV cs] W fun e w' => e = .returned (.bool (p x)) ∧ Below W.heap.size W w') :
    Calls Tryz.prog 130 #[.slice a xs.length cap, .func (.func 131) #[] #[]] w fun e w' => e = .returned (.bool (xs.all p)) ∧ Below w.heap.size w w' := by
 have B := box_below w (.cells #[.func (.func 131) #[] #[]] 149);have G := heap_at w (.cells #[.func (.func 131) #[] #[]] 149);have HC := conFnEvent (p := p) (g := w.heap.size) a xs cap (w.alloc (.cells #[.func (.func 131) #[] #[]] 149)) (slrd_next h B) hm (fun x cs W hx hb hr => closFitEvent x cs W hr (row_keep hb G) (fun W2 hb2 => HF x cs W2 hx (below_step (below_step B hb) hb2) (rd_next hr hb2)));clear h hm HF G;generalize xs.all p = y at HC ⊢;go_enter Tryz.func130, Tryz.ntmps130;go_wp2_with fail
 refine HC.mono ?_;rintro e w1 ⟨rfl, b1⟩;replace B := below_step B b1;clear b1;go_wp2;go_ret
 exact ⟨by simp, B⟩
end Go.Proofs.YtcocbafhcpdheaaGreatDoor
