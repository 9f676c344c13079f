import Derived.Test.YtcocbafhcpdheaaGreatDoorP00Box
import Derived.Test.YtcocbafhcpdheaaGreatDoorP49
namespace Go.Proofs.YtcocbafhcpdheaaGreatDoor
set_option maxHeartbeats 4000000
set_option maxRecDepth 20000
open Go.ChangeShapes Go.WideShapes Go.ChangeAt Go.RowKit
set_option linter.unusedVariables false
set_option linter.unusedSimpArgs false
theorem statesOf_u (x : FabricD) (a1 : Option Addr) (c1 : Nat) (b1 : Option Addr) (d1 : Nat) (a2 : Option Addr) (c2 : Nat) (a3 : Option Addr) (c3 : Nat) (b3 : Option Addr) (d3 : Nat) (a4 : Option Addr) (c4 : Nat) (a5 : Option Addr) (c5 : Nat) (w : World) (R : FabRd w x a1 c1 b1 d1 a2 c2 a3 c3 b3 d3 a4 c4 a5 c5) (hf : fabI x = true) (k : Int) :
    Calls Tryz.prog 37 #[.agg #[.int .i64 x.1.1, .int .i64 x.1.2.1, .int .i64 x.1.2.2.1, .int .i64 x.1.2.2.2, .slice a1 x.2.1.1.length c1, .slice b1 x.2.1.2.length d1, .slice a2 x.2.2.1.length c2, .slice a3 x.2.2.2.1.1.length c3, .int .i64 x.2.2.2.1.2.1, .bool x.2.2.2.1.2.2.1, .slice b3 x.2.2.2.1.2.2.2.length d3, .slice a4 x.2.2.2.2.1.length c4, .slice a5 x.2.2.2.2.2.length c5], .int .i64 k] w fun e w' => ∃ v, e = .returned v ∧ MadeR intsR w w' [v] (statesI x k) := by
 have RR : Hid (∀ W, Below w.heap.size w W → SlRd coreR W a2 x.2.2.1) := fun W hb => (fab_next R hb).cores;have HOK : Hid (∀ u, u ∈ x.2.2.1 → OkC isL treeB u.1) := fun u hu => fab_core hf hu;have hl4 : x.2.2.1.length ≤ 4 := by
  obtain ⟨⟨hc1, hc4⟩, hcl, -⟩ := fab_facts hf;omega
 have B := Below.refl w.heap.size w;clear R hf;go_enter Tryz.func37, Tryz.ntmps37;go_upto_region 1 with fail
 generalize hu1w : w.alloc _ = u1w;have F := boxH hu1w;have bz := boxB hu1w;have zF := boxL hu1w;clear hu1w;replace B := below_step B bz;clear bz;clear zF;have HB : Hid _ := B;have MN := made_cap (e := 2) (R := intR) u1w #[] 0 (Nat.zero_le _) rfl;have F2 := heap_on (.cells #[] 2) F;obtain ⟨Fc0, Fc1, Fc2, Fc3, Fc4, Fc5, Fc6, Fc7, Fc8, Fc9, Fc10, Fc11, Fc12⟩ := cells_fabric F2;have Flt := (ltH F2);clear F B F2;go_wp2;clear Fc0 Fc1 Fc2 Fc3 Fc4 Fc5 Fc6 Fc7 Fc8 Fc9 Fc10 Fc11 Fc12 Flt;generalize u1w.alloc (.cells #[] 2) = u2w at MN ⊢;go_loopw [5, 12] (fun r i wr => ∃ j : Nat, j ≤ x.2.2.1.length ∧ i = .int .i64 j ∧ ∃ pa pc, r = .slice pa j pc ∧ MadeR intsR u1w wr [.slice pa j pc] ((statesI x k).take j)) (fun _ i _ => x.2.2.1.length - (intOf i).toNat)
 case atStart => exact ⟨0, Nat.zero_le _, rfl, _, _, rfl, MN⟩
 case round =>
  clear MN;obtain ⟨j, hj, rfl, pa, pc, rfl, M⟩ := hrel;by_cases hlt : j < x.2.2.1.length
  ·have hlt' : (j : Int) < (x.2.2.1.length : Int) := by omega
   obtain ⟨u, hx⟩ : ∃ u, x.2.2.1[j]? = some u := ⟨_, List.getElem?_eq_getElem hlt⟩;obtain ⟨bb, off, cs, ra, hrdx, hcell⟩ := slrd_at (RR.out _ (below_step HB.out M.2)) hx;have HC : Hid (∀ V, Below wr.heap.size wr V → Calls Tryz.prog 77 #[aggV cs, .int .i64 k] V fun e w' => ∃ us, e = .returned (aggV us) ∧ MadeR wayR V w' us (wayOf u.1 k)) := fun V hv => own_u cs u k V (HOK.out u (List.mem_of_getElem? hx)) (rd_next hrdx hv);obtain ⟨ga, gc, gb, gd, ha, hc, ia, ic, ja, jc, rfl⟩ := core_shape hrdx;rw [show aggV _ = .agg _ from rfl] at HC;obtain ⟨x0, x1, x2, x3, x4, x5, x6, x7, x8⟩ := cellsAt9 hcell rfl;subst ra;have HTK : Hid _ := states_step (k := k) hx;have HTL : Hid (((statesI x k).take j).length = j) := by unfold Hid; rw [List.length_take, states_len]; omega
   obtain ⟨ti, hi, hz0, hz1, hz2⟩ := info_parts Tryz.infoI8;generalize (statesI x k).take j = sj at HTK HTL M;have HM : Hid _ := M;clear hcell hrdx hx M;go_upto_region 5 with fail
   clear x0 x1 x2 x3 x4 x5 x6 x7 x8;generalize hwv : wr.alloc _ = wv;have X := boxH hwv;have BZ := boxB hwv;clear hwv;obtain ⟨x0, x1, x2, x3, x4, x5, x6, x7, x8⟩ := cells_core X;go_wp2_with fail
   clear x0 x1 x2 x3 x4 x5 x6 x7 x8 X;refine (HC.out _ BZ).mono ?_;rintro e w9 ⟨us, rfl, M9⟩;clear HC;have bq := below_step BZ M9.2;obtain ⟨ea, ec, rfl, -, i1, -, -, -⟩ := way_rd (wayR.own_rd M9.1);rw [show aggV _ = .agg _ from rfl];clear M9 BZ;have FW : ∀ (a b c : Value) (W : World), (Instr.field 88 (.agg #[a, b, c]) 1).run Tryz.prog W = .ok b W := field_state;go_wp2_with (at_builtin; refine wpList_pm (w0 := u1w) (wr := wr) (w1 := w9) rfl _ _ 37 rfl intR 2 ti (.int .i64 0) 8 Tryz.underlying37 hi hz0 hz1 hz2 rfl (by decide) (by decide) (.slice pa j pc) sj [.int .i64 (wayOf u.1 k).2.1] (stateOf u k) 1 rfl _ rfl rfl HM.out bq ⟨rfl, i1⟩ ?c1 ?c2 ?c3 ?_)
   case c1 => intro q hq; simp at hq; subst hq; rfl
   case c2 => rw [HTL.out]; unfold maxLen; omega
   case c3 => rw [HTL.out]; omega
   intro g' cap' w2 NM NC;rw [show sj.length = j from HTL.out] at NM ⊢;rw [HTK.out] at NM;have HNM : Hid _ := NM;clear NM NC HM bq;go_wp2;go_roundw
   case rel => exact ⟨j + 1, by omega, by go_num, _, _, rfl, HNM.out⟩
   case measure => simp [intOf]; omega
  ·have hjn : j = (statesI x k).length := by rw [states_len]; omega
   have HM : Hid (MadeR intsR w wr [.slice pa j pc] (statesI x k)) := by
    unfold Hid;subst hjn;rw [List.take_length] at M;exact made_from HB.out M
   clear M;go_wp2;go_ret
   exact ⟨_, rfl, HM.out⟩
open Go.ChangeShapes Go.WideShapes Go.RowKit
open Go.Maps (Keyed)
theorem drewN_below {B : Nat} {a w : World} (h : Below B a w) (q : Nat) : Below B a (w.drewN q) := ⟨h.os, h.tape, h.output, h.size, h.block⟩
abbrev Crowd (w : World) (b n : Nat) (f : Value → Option Int) : Prop := MapV Tryz.prog 194 2 w b n f
theorem Crowd.at {w : World} {b n : Nat} {f : Value → Option Int} (h : Crowd w b n f) (x y z : Bool) {c : Int} (e : (f (hk x y z)).getD 0 = c) :
    (Instr.lookup 192 (.map (some b)) (hk x y z) false).run Tryz.prog w = .ok (.int .i64 c) w := by
 obtain ⟨l, hl⟩ := hk_key x y z;have := MapV.look h holdKeyed Tryz.underlying192 Tryz.underlying2 (zero2 _) hl;rwa [e] at this
theorem alone_any {b n : Nat} {f : Value → Option Int} (w : World) (h : HoldT w) (hm : Crowd w b n f) (u2 u3 : Int) (e2 : (f (hk true true false)).getD 0 = u2) (e3 : (f (hk true true true)).getD 0 = u3) (lo : -9223372036854775808 ≤ u2 + u3) (hi : u2 + u3 ≤ 9223372036854775807) :
    Calls Tryz.prog 153 #[.map (some b)] w fun x w' => x = .returned (.int .i64 (u2 + u3)) ∧ w' = w.drewN 1 := by
 obtain ⟨c0, c1, c2, c3, c4, c5, c6, c7, c8, c9, c10, c11⟩ := h.cells;have l2 : (Instr.lookup 192 (.map (some b)) (hk true true false) false).run Tryz.prog w.drew = .ok (.int .i64 u2) w.drew := Crowd.at (hm.drewN 1) true true false e2;have l3 : (Instr.lookup 192 (.map (some b)) (hk true true true) false).run Tryz.prog w.drew = .ok (.int .i64 u3) w.drew := Crowd.at (hm.drewN 1) true true true e3;go_enter Tryz.func153, Tryz.ntmps153;go_wp2_with fail
 go_region
 all_goals
  go_wp2;go_ret
  exact ⟨rfl, rfl⟩
theorem here_any {b n : Nat} {f : Value → Option Int} (w : World) (h : HoldT w) (hm : Crowd w b n f) (u1 u2 u3 : Int) (e1 : (f (hk true false false)).getD 0 = u1) (e2 : (f (hk true true false)).getD 0 = u2) (e3 : (f (hk true true true)).getD 0 = u3)
    (lo : -9223372036854775808 ≤ u2 + u3) (hi : u2 + u3 ≤ 9223372036854775807) (lo1 : -9223372036854775808 ≤ u1 + (u2 + u3)) (hi1 : u1 + (u2 + u3) ≤ 9223372036854775807) :
    Calls Tryz.prog 154 #[.map (some b)] w fun x w' => x = .returned (.int .i64 (u1 + (u2 + u3))) ∧ ∃ q, w' = w.drewN q := by
 obtain ⟨c0, c1, c2, c3, c4, c5, c6, c7, c8, c9, c10, c11⟩ := h.cells;have l1 : ∀ q, (Instr.lookup 192 (.map (some b)) (hk true false false) false).run Tryz.prog (w.drewN q) = .ok (.int .i64 u1) (w.drewN q) := fun q => Crowd.at (hm.drewN q) true false false e1;have C : ∀ q, Calls Tryz.prog 153 #[.map (some b)] (w.drewN q) fun x w' => x = .returned (.int .i64 (u2 + u3)) ∧ ∃ p, w' = (w.drewN q).drewN p := fun q =>
  (alone_any (w.drewN q) (h.drewN q) (hm.drewN q) u2 u3 e2 e3 lo hi).mono fun x w' ⟨h1, h2⟩ => ⟨h1, 1, h2⟩
 generalize hv : u2 + u3 = v at *;clear hv;go_enter Tryz.func154, Tryz.ntmps154;go_wp2_with fail
 go_quiet (first | (go_at_call 153; exact Calls.quiet_of (C _)))
 go_wp2;go_ret
 exact ⟨rfl, _, rfl⟩
def oks (xs : List Int) : Prop := ∀ s ∈ xs, betw s 0 3 = true
def somes (xs : List Int) : Nat := (xs.filter fun s => s != 0).length
def lone (xs : List Int) : Bool := xs.any fun s => decide (2 ≤ s)
def togB (xs : List Int) : Bool := xs.all (fun s => betw s 0 3) && (!lone xs || decide (somes xs = 1))
theorem take_next {xs : List Int} {k : Nat} (h : k < xs.length) : xs.take (k + 1) = xs.take k ++ [xs.getD k 0] := by
 rw [List.take_add_one, List.getElem?_eq_getElem h]; simp [h]
theorem oks_next {xs : List Int} {y : Int} (h : oks xs) (hy : betw y 0 3 = true) : oks (xs ++ [y]) := fun s hs => by
 rcases List.mem_append.1 hs with hs | hs
 ·exact h s hs
 ·rw [List.mem_singleton.1 hs]; exact hy
theorem somes_next (xs : List Int) (y : Int) : somes (xs ++ [y]) = somes xs + (if y != 0 then 1 else 0) := by
 unfold somes; rw [List.filter_append, List.length_append]; congr 1; by_cases h : y = 0 <;> simp [h]
theorem lone_next (xs : List Int) (y : Int) : lone (xs ++ [y]) = (lone xs || decide (2 ≤ y)) := by
 unfold lone; simp
theorem tog_bad {xs : List Int} {y : Int} (hy : y ∈ xs) (hr : betw y 0 3 = false) : togB xs = false := by
 have : xs.all (fun s => betw s 0 3) = false := by
  rw [Bool.eq_false_iff]; intro h;rw [List.all_eq_true.1 h y hy] at hr; cases hr
 unfold togB; rw [this]; rfl
theorem tog_ok {xs : List Int} (h : oks xs) : togB xs = (!lone xs || decide (somes xs = 1)) := by
 have : xs.all (fun s => betw s 0 3) = true := List.all_eq_true.2 h;unfold togB; rw [this]; rfl
theorem getD_mem {xs : List Int} {k : Nat} (h : k < xs.length) : xs.getD k 0 ∈ xs := by
 rw [List.getD_eq_getElem?_getD, List.getElem?_eq_getElem h]; exact List.getElem_mem h
theorem specTogether_any (a : Option Addr) (xs : List Int) (cap : Nat) (w : World) (h1 : Reads w a xs) (hm : xs.length ≤ 2305843009213693952) :
    Calls Tryz.prog 50 #[.slice a xs.length cap] w fun e w' => e = .returned (.bool (togB xs)) ∧ w' = w := by
 go_enter Tryz.func50, Tryz.ntmps50;go_wp2;go_loop [3, 4, 5] (fun s al i => ∃ k : Nat, i = .int .i64 k ∧ k ≤ xs.length ∧ (∃ m : Nat, s = .int .i64 m ∧ m ≤ k ∧ Hid (m = somes (xs.take k))) ∧ (∃ b : Bool, al = .bool b ∧ Hid (b = lone (xs.take k))) ∧ Hid (oks (xs.take k))) (fun _ _ i => xs.length - (intOf i).toNat)
 case atStart => exact ⟨0, rfl, by omega, ⟨0, rfl, by omega, by unfold Hid; rfl⟩, ⟨false, rfl, by unfold Hid; rfl⟩, by unfold Hid; intro s hs; simp at hs⟩
 case round =>
  obtain ⟨k, rfl, hk, ⟨m, rfl, hmk, HM⟩, ⟨b, rfl, HB⟩, HA⟩ := hrel;by_cases hlt : k < xs.length
  ·rcases h1 with rfl | ⟨b1, o1, rfl, hc1⟩
   ·simp at hlt
   have g1 := hc1 k hlt;have hlt' : (k : Int) < (xs.length : Int) := by omega
   have HT : Hid (xs.take (k + 1) = xs.take k ++ [xs.getD k 0]) := by unfold Hid; exact take_next hlt
   have HY : Hid (xs.getD k 0 ∈ xs) := by unfold Hid; exact getD_mem hlt
   clear hc1;obtain ⟨y, hy⟩ : ∃ y, xs.getD k 0 = y := ⟨_, rfl⟩;rw [hy] at g1 HT HY;clear hy;by_cases hr : betw y 0 3 = true
   ·have HA' : Hid (oks (xs.take (k + 1))) := by unfold Hid; rw [HT.out]; exact oks_next HA.out hr
    have HM' : Hid (m + (if y != 0 then 1 else 0) = somes (xs.take (k + 1))) := by unfold Hid; rw [HT.out, somes_next, ← HM.out]
    have HB' : Hid ((b || decide (2 ≤ y)) = lone (xs.take (k + 1))) := by unfold Hid; rw [HT.out, lone_next, ← HB.out]
    clear HA HM HB HT HY;rcases state4 hr with rfl | rfl | rfl | rfl
    all_goals
     cases b
     all_goals
      go_wp2_with fail
      refine (l1In_any _ _ _ _).mono ?_;rintro _ w1 ⟨rfl, rfl⟩;rw [hr];go_wp2;go_round
      case rel => first | exact ⟨k + 1, by go_num, by omega, ⟨m, by go_num, by omega, HM'⟩, ⟨_, rfl, HB'⟩, HA'⟩ | exact ⟨k + 1, by go_num, by omega, ⟨m + 1, by go_num, by omega, HM'⟩, ⟨_, rfl, HB'⟩, HA'⟩
      case measure => simp [intOf]; omega
   ·have hr' : betw y 0 3 = false := by simpa using hr
    have HF : Hid (togB xs = false) := by unfold Hid; exact tog_bad HY.out hr'
    clear HA HM HB HT HY hr;go_wp2_with fail
    refine (l1In_any _ _ _ _).mono ?_;rintro _ w1 ⟨rfl, rfl⟩;rw [hr'];go_wp2;go_ret
    exact ⟨by rw [HF.out]; rfl, rfl⟩
  ·have hkl : Hid (xs.take k = xs) := by unfold Hid; exact List.take_of_length_le (by omega)
   have HF : Hid (togB xs = (!b || decide (m = 1))) := by
    unfold Hid;have h1 := HM.out; have h2 := HB.out; have h3 := HA.out;rw [hkl.out] at h1 h2 h3;rw [tog_ok h3, ← h2, ← h1]
   clear HM HB HA hkl;cases b
   ·go_wp2;go_ret
    exact ⟨by rw [HF.out]; rfl, rfl⟩
   ·go_wp2;go_ret
    exact ⟨ret_bool (by rw [HF.out, Bool.eq_iff_iff]; simp; omega), rfl⟩
def cnt (s : Int) (xs : List Int) : Int := (xs.filter fun x => x == s).length
def Counts (f : Value → Option Int) (xs : List Int) : Prop :=
 (f (hk false false false)).getD 0 = cnt 0 xs ∧ (f (hk true false false)).getD 0 = cnt 1 xs ∧ (f (hk true true false)).getD 0 = cnt 2 xs ∧ (f (hk true true true)).getD 0 = cnt 3 xs
theorem cnt_next (s y : Int) (xs : List Int) : cnt s (xs ++ [y]) = cnt s xs + (if y = s then 1 else 0) := by
 unfold cnt; rw [List.filter_append, List.length_append]; by_cases h : y = s <;> simp [h]
theorem cnt_le (s : Int) (xs : List Int) : 0 ≤ cnt s xs ∧ cnt s xs ≤ xs.length := by
 unfold cnt; have := List.length_filter_le (fun x => x == s) xs; omega
theorem counts_next0 {f : Value → Option Int} {xs : List Int} {u : Int} (h : Counts f xs) (hu : (f (hk false false false)).getD 0 = u) : Counts (putV f (hk false false false) (u + 1)) (xs ++ [0]) := by
 obtain ⟨h0, h1, h2, h3⟩ := h;refine ⟨?_, ?_, ?_, ?_⟩
 ·rw [putV_same, cnt_next]; simp; omega
 ·rw [putV_other _ _ (by simp), cnt_next]; simp [h1]
 ·rw [putV_other _ _ (by simp), cnt_next]; simp [h2]
 ·rw [putV_other _ _ (by simp), cnt_next]; simp [h3]
theorem counts_next1 {f : Value → Option Int} {xs : List Int} {u : Int} (h : Counts f xs) (hu : (f (hk true false false)).getD 0 = u) : Counts (putV f (hk true false false) (u + 1)) (xs ++ [1]) := by
 obtain ⟨h0, h1, h2, h3⟩ := h;refine ⟨?_, ?_, ?_, ?_⟩
 ·rw [putV_other _ _ (by simp), cnt_next]; simp [h0]
 ·rw [putV_same, cnt_next]; simp; omega
 ·rw [putV_other _ _ (by simp), cnt_next]; simp [h2]
 ·rw [putV_other _ _ (by simp), cnt_next]; simp [h3]
theorem counts_next2 {f : Value → Option Int} {xs : List Int} {u : Int} (h : Counts f xs) (hu : (f (hk true true false)).getD 0 = u) : Counts (putV f (hk true true false) (u + 1)) (xs ++ [2]) := by
 obtain ⟨h0, h1, h2, h3⟩ := h;refine ⟨?_, ?_, ?_, ?_⟩
 ·rw [putV_other _ _ (by simp), cnt_next]; simp [h0]
 ·rw [putV_other _ _ (by simp), cnt_next]; simp [h1]
 ·rw [putV_same, cnt_next]; simp; omega
 ·rw [putV_other _ _ (by simp), cnt_next]; simp [h3]
theorem counts_next3 {f : Value → Option Int} {xs : List Int} {u : Int} (h : Counts f xs) (hu : (f (hk true true true)).getD 0 = u) : Counts (putV f (hk true true true) (u + 1)) (xs ++ [3]) := by
 obtain ⟨h0, h1, h2, h3⟩ := h;refine ⟨?_, ?_, ?_, ?_⟩
 ·rw [putV_other _ _ (by simp), cnt_next]; simp [h0]
 ·rw [putV_other _ _ (by simp), cnt_next]; simp [h1]
 ·rw [putV_other _ _ (by simp), cnt_next]; simp [h2]
 ·rw [putV_same, cnt_next]; simp; omega
theorem counts_all {xs : List Int} (h : oks xs) : (somes xs : Int) = cnt 1 xs + (cnt 2 xs + cnt 3 xs) ∧ (lone xs = decide (cnt 2 xs + cnt 3 xs ≠ 0)) ∧ cnt 1 xs + (cnt 2 xs + cnt 3 xs) ≤ xs.length := by
 induction xs with
 | nil => exact ⟨rfl, rfl, by decide⟩
 | cons y ys ih =>
  have hy := h y (by simp);obtain ⟨i1, i2, i3⟩ := ih (fun s hs => h s (by simp [hs]));have c2 := cnt_le 2 ys;have c3 := cnt_le 3 ys;have hc : ∀ s, cnt s (y :: ys) = cnt s ys + (if y = s then 1 else 0) := fun s => by unfold cnt; by_cases e : y = s <;> simp [e]
  have hs : (somes (y :: ys) : Int) = somes ys + (if y = 0 then 0 else 1) := by unfold somes; by_cases e : y = 0 <;> simp [e]
  have hl : lone (y :: ys) = (decide (2 ≤ y) || lone ys) := by unfold lone; simp
  rw [hs, hl, hc, hc, hc, i1, i2];rcases state4 hy with rfl | rfl | rfl | rfl
  ·simp; omega
  ·simp; omega
  ·simp; omega
  ·simp; omega
theorem tog_counts {xs : List Int} (h : oks xs) : togB xs = (decide (cnt 2 xs + cnt 3 xs = 0) || decide (cnt 1 xs + (cnt 2 xs + cnt 3 xs) = 1)) := by
 obtain ⟨h1, h2, _⟩ := counts_all h;rw [tog_ok h, h2, Bool.eq_iff_iff];simp
 omega
theorem implTogether_any (a : Option Addr) (xs : List Int) (cap : Nat) (w : World) (h1 : Reads w a xs) (hh : HoldT w) (hab : ∀ p, a = some p → p.block < w.heap.size) (hm : xs.length ≤ 1048576) :
    Calls Tryz.prog 99 #[.slice a xs.length cap] w fun e w' => e = .returned (.bool (togB xs)) ∧ Below w.heap.size w w' := by
 have hmm := @run_makeMap Tryz.prog;have B0 : Below w.heap.size w (w.alloc (.map #[] 0)) := (Below.refl _ _).alloc (Nat.le_refl _) _;have M0 : Crowd (w.alloc (.map #[] 0)) w.heap.size 0 (fun _ => none) := mapV_made w Tryz.prog 194 2;go_enter Tryz.func99, Tryz.ntmps99;go_wp2;go_loopw [9] (fun i wr => ∃ k : Nat, i = .int .i64 k ∧ k ≤ xs.length ∧ (∃ f, Crowd wr w.heap.size k f ∧ Hid (Counts f (xs.take k))) ∧ Below w.heap.size w wr ∧ Hid (oks (xs.take k))) (fun i _ => xs.length - (intOf i).toNat)
 case atStart => exact ⟨0, rfl, by omega, ⟨_, M0, by unfold Hid; exact ⟨rfl, rfl, rfl, rfl⟩⟩, B0, by unfold Hid; intro s hs; simp at hs⟩
 case round =>
  obtain ⟨k, rfl, hkx, ⟨f, hM, HC⟩, BB, HA⟩ := hrel;by_cases hlt : k < xs.length
  ·rcases h1 with rfl | ⟨b1, o1, rfl, hc1⟩
   ·simp at hlt
   have hbl := hab _ rfl;have g1 := (World.cell?_of_block (w := w) (a := ⟨b1, o1 + k, none⟩) (BB.block b1 hbl)).trans (hc1 k hlt);have hlt' : (k : Int) < (xs.length : Int) := by omega
   have HT : Hid (xs.take (k + 1) = xs.take k ++ [xs.getD k 0]) := by unfold Hid; exact take_next hlt
   have HY : Hid (xs.getD k 0 ∈ xs) := by unfold Hid; exact getD_mem hlt
   clear hc1;obtain ⟨y, hy⟩ : ∃ y, xs.getD k 0 = y := ⟨_, rfl⟩;rw [hy] at g1 HT HY;clear hy;by_cases hr : betw y 0 3 = true
   ·have HA' : Hid (oks (xs.take (k + 1))) := by unfold Hid; rw [HT.out]; exact oks_next HA.out hr
    have hH : HoldT _ := hh.goes BB;obtain ⟨c0, c1, c2, c3, c4, c5, c6, c7, c8, c9, c10, c11⟩ := hH.cells;clear HA HY;rcases state4 hr with rfl | rfl | rfl | rfl
    ·obtain ⟨u, hu⟩ : ∃ u, (f (hk false false false)).getD 0 = u := ⟨_, rfl⟩;have hu1 : 0 ≤ u ∧ u ≤ k := by
      have := cnt_le 0 (xs.take k);have h5 := HC.out.1;rw [hu] at h5;rw [List.length_take] at this;omega
     obtain ⟨hu0, huk⟩ := hu1;have HC' : Hid (Counts (putV f (hk false false false) (u + 1)) (xs.take (k + 1))) := by unfold Hid; rw [HT.out]; exact counts_next0 HC.out hu
     obtain ⟨l, hl⟩ := hk_key false false false;obtain ⟨v0, st, w1, E1, G1, L1, S1⟩ := MapV.entry (hM.drewN 1) holdLaw Tryz.underlying192 Tryz.underlying2 zero2 (by unfold maxLen; omega) hl;obtain ⟨w2, S2, M2, G2⟩ := S1 (u + 1) (WalkArith.wf_i64 (by omega));have L0 := Crowd.at (hM.drewN 1) false false false hu;rw [hu] at L1;have B2 : Below w.heap.size w w2 := (drewN_below BB 1).grown G2 (drewN_below BB 1).size (fun j hj => by cases hj; exact Nat.le_refl _);clear HC HT hl S1 G1 G2 hM hu BB hH;unfold goInt at E1 S2;rw [show ∀ W : World, W.drewN 1 = W.drew from fun _ => rfl] at E1 L0;go_wp2_with fail
     refine (stateOk_any _ _).mono ?_;rintro _ w5 ⟨rfl, rfl⟩;rw [hr];go_wp2_with fail
     go_region
     all_goals
      go_wp2;go_roundw
      case rel => exact ⟨k + 1, by go_num, by omega, ⟨_, M2, HC'⟩, B2, HA'⟩
      case measure => simp [intOf]; omega
    ·obtain ⟨u, hu⟩ : ∃ u, (f (hk true false false)).getD 0 = u := ⟨_, rfl⟩;have hu1 : 0 ≤ u ∧ u ≤ k := by
      have := cnt_le 1 (xs.take k);have h5 := HC.out.2.1;rw [hu] at h5;rw [List.length_take] at this;omega
     obtain ⟨hu0, huk⟩ := hu1;have HC' : Hid (Counts (putV f (hk true false false) (u + 1)) (xs.take (k + 1))) := by unfold Hid; rw [HT.out]; exact counts_next1 HC.out hu
     obtain ⟨l, hl⟩ := hk_key true false false;obtain ⟨v0, st, w1, E1, G1, L1, S1⟩ := MapV.entry (hM.drewN 1) holdLaw Tryz.underlying192 Tryz.underlying2 zero2 (by unfold maxLen; omega) hl;obtain ⟨w2, S2, M2, G2⟩ := S1 (u + 1) (WalkArith.wf_i64 (by omega));have L0 := Crowd.at (hM.drewN 1) true false false hu;rw [hu] at L1;have B2 : Below w.heap.size w w2 := (drewN_below BB 1).grown G2 (drewN_below BB 1).size (fun j hj => by cases hj; exact Nat.le_refl _);clear HC HT hl S1 G1 G2 hM hu BB hH;unfold goInt at E1 S2;rw [show ∀ W : World, W.drewN 1 = W.drew from fun _ => rfl] at E1 L0;go_wp2_with fail
     refine (stateOk_any _ _).mono ?_;rintro _ w5 ⟨rfl, rfl⟩;rw [hr];go_wp2_with fail
     go_region
     all_goals
      go_wp2;go_roundw
      case rel => exact ⟨k + 1, by go_num, by omega, ⟨_, M2, HC'⟩, B2, HA'⟩
      case measure => simp [intOf]; omega
    ·obtain ⟨u, hu⟩ : ∃ u, (f (hk true true false)).getD 0 = u := ⟨_, rfl⟩;have hu1 : 0 ≤ u ∧ u ≤ k := by
      have := cnt_le 2 (xs.take k);have h5 := HC.out.2.2.1;rw [hu] at h5;rw [List.length_take] at this;omega
     obtain ⟨hu0, huk⟩ := hu1;have HC' : Hid (Counts (putV f (hk true true false) (u + 1)) (xs.take (k + 1))) := by unfold Hid; rw [HT.out]; exact counts_next2 HC.out hu
     obtain ⟨l, hl⟩ := hk_key true true false;obtain ⟨v0, st, w1, E1, G1, L1, S1⟩ := MapV.entry (hM.drewN 1) holdLaw Tryz.underlying192 Tryz.underlying2 zero2 (by unfold maxLen; omega) hl;obtain ⟨w2, S2, M2, G2⟩ := S1 (u + 1) (WalkArith.wf_i64 (by omega));have L0 := Crowd.at (hM.drewN 1) true true false hu;rw [hu] at L1;have B2 : Below w.heap.size w w2 := (drewN_below BB 1).grown G2 (drewN_below BB 1).size (fun j hj => by cases hj; exact Nat.le_refl _);clear HC HT hl S1 G1 G2 hM hu BB hH;unfold goInt at E1 S2;rw [show ∀ W : World, W.drewN 1 = W.drew from fun _ => rfl] at E1 L0;go_wp2_with fail
     refine (stateOk_any _ _).mono ?_;rintro _ w5 ⟨rfl, rfl⟩;rw [hr];go_wp2_with fail
     go_region
     all_goals
      go_wp2;go_roundw
      case rel => exact ⟨k + 1, by go_num, by omega, ⟨_, M2, HC'⟩, B2, HA'⟩
      case measure => simp [intOf]; omega
    ·obtain ⟨u, hu⟩ : ∃ u, (f (hk true true true)).getD 0 = u := ⟨_, rfl⟩;have hu1 : 0 ≤ u ∧ u ≤ k := by
      have := cnt_le 3 (xs.take k);have h5 := HC.out.2.2.2;rw [hu] at h5;rw [List.length_take] at this;omega
     obtain ⟨hu0, huk⟩ := hu1;have HC' : Hid (Counts (putV f (hk true true true) (u + 1)) (xs.take (k + 1))) := by unfold Hid; rw [HT.out]; exact counts_next3 HC.out hu
     obtain ⟨l, hl⟩ := hk_key true true true;obtain ⟨v0, st, w1, E1, G1, L1, S1⟩ := MapV.entry (hM.drewN 1) holdLaw Tryz.underlying192 Tryz.underlying2 zero2 (by unfold maxLen; omega) hl;obtain ⟨w2, S2, M2, G2⟩ := S1 (u + 1) (WalkArith.wf_i64 (by omega));have L0 := Crowd.at (hM.drewN 1) true true true hu;rw [hu] at L1;have B2 : Below w.heap.size w w2 := (drewN_below BB 1).grown G2 (drewN_below BB 1).size (fun j hj => by cases hj; exact Nat.le_refl _);clear HC HT hl S1 G1 G2 hM hu BB hH;unfold goInt at E1 S2;rw [show ∀ W : World, W.drewN 1 = W.drew from fun _ => rfl] at E1 L0;go_wp2_with fail
     refine (stateOk_any _ _).mono ?_;rintro _ w5 ⟨rfl, rfl⟩;rw [hr];go_wp2_with fail
     go_region
     all_goals
      go_wp2;go_roundw
      case rel => exact ⟨k + 1, by go_num, by omega, ⟨_, M2, HC'⟩, B2, HA'⟩
      case measure => simp [intOf]; omega
   ·have hr' : betw y 0 3 = false := by simpa using hr
    have HF : Hid (togB xs = false) := by unfold Hid; exact tog_bad HY.out hr'
    clear HA HC HT HY hr;go_wp2_with fail
    refine (stateOk_any _ _).mono ?_;rintro _ w5 ⟨rfl, rfl⟩;rw [hr'];go_wp2;go_ret
    exact ⟨by rw [HF.out]; rfl, BB⟩
  ·have hkl : Hid (xs.take k = xs) := by unfold Hid; exact List.take_of_length_le (by omega)
   have HA2 := HA.out;obtain ⟨q0, q1, q2, q3⟩ := HC.out;rw [hkl.out] at HA2 q1 q2 q3;have HF : Hid (togB xs = (decide (cnt 2 xs + cnt 3 xs = 0) || decide (cnt 1 xs + (cnt 2 xs + cnt 3 xs) = 1))) := by unfold Hid; exact tog_counts HA2
   have n1 := (counts_all HA2).2.2;have n2 := cnt_le 1 xs;have n3 := cnt_le 2 xs;have n4 := cnt_le 3 xs;have hH : HoldT _ := hh.goes BB;generalize cnt 1 xs = u1 at *;generalize cnt 2 xs = u2 at *;generalize cnt 3 xs = u3 at *;clear HA HC hkl HA2 q0;by_cases hz : u2 + u3 = 0
   ·go_wp2_with fail
    refine (alone_any _ hH hM u2 u3 q2 q3 (by omega) (by omega)).mono ?_;rintro _ _ ⟨rfl, rfl⟩;rw [hz];go_wp2;go_ret
    exact ⟨by rw [HF.out, decide_eq_true hz]; rfl, drewN_below BB 1⟩
   ·have hz' : ((u2 + u3) == 0) = false := by simpa using hz
    have C := here_any _ (hH.drewN 1) (hM.drewN 1) u1 u2 u3 q1 q2 q3 (by omega) (by omega) (by omega) (by omega);have D := alone_any _ hH hM u2 u3 q2 q3 (by omega) (by omega);have hz2 : ¬ (u2 + u3 = 0) := hz;have HF2 : Hid (togB xs = decide (u1 + (u2 + u3) = 1)) := by unfold Hid; rw [HF.out, decide_eq_false hz]; rfl
    clear HF q1 q2 q3 hz hz2 n1 n2 n3 n4;generalize u2 + u3 = v at *;generalize u1 + v = z at *;go_wp2_with fail
    refine D.mono ?_;rintro _ _ ⟨rfl, rfl⟩;go_wp2_with fail
    refine C.mono ?_;rintro _ _ ⟨rfl, q, rfl⟩;go_wp2;go_ret
    exact ⟨ret_bool (by rw [HF2.out, Bool.eq_iff_iff]; simp), drewN_below BB _⟩
end Go.Proofs.YtcocbafhcpdheaaGreatDoor
