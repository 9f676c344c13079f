import Derived.Test.YtcocbafhcpdheaaGreatDoorP00Box
import Derived.Test.YtcocbafhcpdheaaGreatDoorP48
namespace Go.Proofs.YtcocbafhcpdheaaGreatDoor
open Go.ChangeShapes Go.WideShapes Go.ChangeAt Go.RowKit
set_option linter.unusedVariables false
theorem specFab_u (cs : List Value) (x : FabricD) (w : World) (h : fabricR.rd w cs x) (hbk : fabricM.bk x ≤ 1048576) :
    Calls Tryz.prog 49 #[aggV cs] w fun e w' => e = .returned (.bool (fabI x)) ∧ Below w.heap.size w w' := by
 rw [← fab_eq];exact specFabricOk_u cs x w h hbk
variable {α : Type}
theorem appR_sep {base : Nat} {e : TypeId} {R : Rep α} {S T : Foot} {w w2 : World} {o : Obj} {v v' : Value} {xs : List α} {c : List Value} {x : α} (hty : e ∉ R.tys) (h : (slR e R).own w S [v] xs) (hx : R.own w T c x) (hd : Dis S T) (hSb : ∀ k, S k → base ≤ k) (hTb : ∀ k, T k → base ≤ k)
    (happ : ∀ rows, w.ownsRow base e R.size v xs.length rows → w2.ownsRow base e R.size v' (xs.length + 1) (rows ++ c)) (hg : (w.alloc o).grownBy w2 v.ownBlock) :
    (slR e R).own w2 (rng base w2.heap.size) [v'] (xs ++ [x]) ∧ Chg (Old w S) w w2 := by
 obtain ⟨v1, rows, S', hv, hr, hgg, hs, hl⟩ := own_old h;simp only [List.cons.injEq, and_true] at hv;subst hv;have hr2 := happ rows (row_base hr fun g h => hSb g (hgg g h).1.1);have hx := R.own_tight (own_old hx);have lt := lown_tight hl;have s2 : w.heap.size + 1 ≤ w2.heap.size := by have := hg.size; simpa using this
 have keepw : ∀ k, k < w.heap.size → v.ownBlock ≠ some k → w2.heap[k]? = w.heap[k]? := fun k hk hne => by
  rw [hg.block k (by simp; omega) (fun e => hne e.symm), Below.heap_alloc w o k hk]
 have L2 := lown_keep (w' := w2) lt fun k hk hlk => keepw k hlk (fun e => (hgg k e).2 hk.1);have O2 := R.own_keep (w' := w2) hx fun k hk hlk => keepw k hlk (fun e => hd k (hgg k e).1.1 hk.1.1);refine ⟨⟨v', rows ++ c, (fun k => (S' k ∧ ∃ cur t, t ∈ R.tys ∧ w.heap[k]? = some (.cells cur t (0, 0))) ∨ (Old w T k ∧ ∃ cur t, t ∈ R.tys ∧ w.heap[k]? = some (.cells cur t (0, 0)))), rfl, by rw [List.length_append]; exact row_base hr2 (fun _ _ => Nat.zero_le _), fun g hg' => ?_, ?_, lown_push L2 O2 ?_ (fun k h => .inl h) (fun k h => .inr h)⟩, ?_⟩
 ·obtain ⟨cur, hcur⟩ := row_block hr2 hg';have hin := World.ownsRow.lt hr2 g hg';refine ⟨⟨hin.1, hin.2⟩, ?_⟩;have key : (∃ cur t, t ∈ R.tys ∧ w.heap[g]? = some (.cells cur t (0, 0))) → v.ownBlock ≠ some g → False := by
   rintro ⟨cur', t, ht, hh⟩ hne;have hlk : g < w.heap.size := (ltH hh);have := keepw g hlk hne;rw [hcur, hh] at this;simp at this
   rw [this.2] at hty;exact hty ht
  rintro (⟨h1, h2⟩ | ⟨h1, h2⟩)
  ·exact key h2 (fun e => (hgg g e).2 h1)
  ·exact key h2 (fun e => hd g (hgg g e).1.1 h1.1)
 ·rintro k (⟨h1, _⟩ | ⟨h1, _⟩)
  ·exact ⟨hSb k (hs k h1).1, by have := (hs k h1).2; omega⟩
  ·exact ⟨hTb k h1.1, by have := h1.2; omega⟩
 ·rintro k ⟨h1, _⟩ ⟨h2, _⟩;exact hd k (hs k h1).1 h2.1
 ·exact ⟨hg.os, hg.tape, hg.output, by omega, fun k hk hn => keepw k hk (fun e => hn (hgg k e).1)⟩
theorem wpList_push {P : Program} {w : World} {ops : Array Oper} {rest : List Oper} {o : Oper} {a : Act} {Q : Exit → Act → World → Prop} (hgd : o.guard = none) (s x : Operand) (t : TypeId)
    (ho : o.op = .call { callee := .builtin .append, args := #[s, x], argTypes := #[t, t] })
    (R : Rep α) (e : TypeId) (i : TypeInfo) (z : Value) (bytes : Nat) (ht : P.underlying t = some (.slice e)) (hi : P.info? e = some i) (hz : i.zero = some z) (hsize : i.size = R.size) (hby : i.bytes = bytes) (hzs : z.cells.size = R.size) (hsz : 0 < R.size) (hty : e ∉ R.tys)
    (base : Nat) (S T : Foot) (v : Value) (xs : List α) (c : List Value) (y : α) (cc : Nat) (hs : a.eval s = v) (qb : Nat) (hx : a.eval x = .slice (some ⟨qb, 0, none⟩) 1 cc) (hq : qb = w.heap.size)
    (h : (slR e R).own w S [v] xs) (hy : R.own w T c y) (hd : Dis S T) (hSb : ∀ k, S k → base ≤ k) (hTb : ∀ k, T k → base ≤ k) (hb : base ≤ w.heap.size) (hone : ∀ u ∈ c, u.oneCell' = true) (hlen : xs.length + 1 ≤ maxLen) (hbytes : (xs.length + 1) * bytes ≤ 140737488355328)
    (k : ∀ g' cap' w2, (slR e R).own w2 (rng base w2.heap.size) [.slice (some ⟨g', 0, none⟩) (xs.length + 1) cap'] (xs ++ [y]) → Chg (Old w S) w w2 → wpList P ops Q rest (a.put o.dst (.slice (some ⟨g', 0, none⟩) (xs.length + 1) cap')) w2) :
    wpList P ops Q (o :: rest) a (w.alloc (.cells c.toArray e)) := by
 subst hq;have h0 := h;obtain ⟨v1, rows, S', hv, hr, hgg, hs', hl⟩ := h0;simp only [List.cons.injEq, and_true] at hv;subst hv;have hr0 : w.ownsRow base e R.size v xs.length rows := row_base hr fun g hg => hSb g (hgg g hg).1;have hrA : (w.alloc (.cells c.toArray e)).ownsRow base e R.size v xs.length rows := orow_keep hr0 fun g hg => by
  have hl := World.ownsRow.lt hr0 g hg;rw [Below.heap_alloc _ _ _ hl.2]
 have hcl : c.length = 1 * R.size := by rw [R.rd_len (R.own_rd hy)]; omega
 refine wpList_append_own (w.alloc (.cells c.toArray e)) hgd s x t ho base e i z R.size bytes ht hi hz hsize hby hzs hsz v xs.length rows hs hrA ⟨w.heap.size, 0, none⟩ 1 cc c hx hcl (cells_news w c e) hone hlen hbytes (by simp; omega) ?_;intro v' w9 hown' hgrow hnil;obtain ⟨g', cap', rfl⟩ := owns_shape hown';obtain ⟨N1, N2⟩ := appR_sep (base := base) (e := e) (R := R) hty h hy hd hSb hTb (fun rows2 hr2 => by rw [rows_unique hr2 hr0]; exact hown') hgrow;exact k _ _ _ N1 N2
set_option linter.unusedSimpArgs false
theorem below_by {B : Nat} {w0 w1 w2 : World} {S : Foot} (h : Below B w0 w1) (hB : B ≤ w1.heap.size) (n : Chg (Old w1 S) w1 w2) (hs : ∀ k, S k → B ≤ k) : Below B w0 w2 :=
 ⟨n.os.trans h.os, n.tape.trans h.tape, n.output.trans h.output, Nat.le_trans h.size n.size, fun j hj => (n.block j (Nat.lt_of_lt_of_le hj hB) (fun q => by have := hs j q.1; omega)).trans (h.block j hj)⟩
theorem wpList_pm {α : Type} {P : Program} {w0 wr w1 : World} {ops : Array Oper} {rest : List Oper} {o : Oper} {a : Act} {Q : Exit → Act → World → Prop} (hgd : o.guard = none) (s x : Operand) (t : TypeId)
    (ho : o.op = .call { callee := .builtin .append, args := #[s, x], argTypes := #[t, t] })
    (R : Rep α) (e : TypeId) (i : TypeInfo) (z : Value) (bytes : Nat) (ht : P.underlying t = some (.slice e)) (hi : P.info? e = some i) (hz : i.zero = some z) (hsize : i.size = R.size) (hby : i.bytes = bytes) (hzs : z.cells.size = R.size) (hsz : 0 < R.size) (hty : e ∉ R.tys)
    (v : Value) (xs : List α) (c : List Value) (y : α) (cc : Nat) (hs : a.eval s = v) (qb : Nat) (hx : a.eval x = .slice (some ⟨qb, 0, none⟩) 1 cc) (hq : qb = w1.heap.size)
    (M : MadeR (slR e R) w0 wr [v] xs) (hb : Below wr.heap.size wr w1) (Y : R.own w1 (rng wr.heap.size w1.heap.size) c y) (hone : ∀ u ∈ c, u.oneCell' = true) (hlen : xs.length + 1 ≤ maxLen) (hbytes : (xs.length + 1) * bytes ≤ 140737488355328)
    (k : ∀ g' cap' w2, MadeR (slR e R) w0 w2 [.slice (some ⟨g', 0, none⟩) (xs.length + 1) cap'] (xs ++ [y]) → Chg (rng w0.heap.size w1.heap.size) w1 w2 → wpList P ops Q rest (a.put o.dst (.slice (some ⟨g', 0, none⟩) (xs.length + 1) cap')) w2) :
    wpList P ops Q (o :: rest) a (w1.alloc (.cells c.toArray e)) := by
 have h0 := M.2.size;have h1 := below_step M.2 hb;refine wpList_push hgd s x t ho R e i z bytes ht hi hz hsize hby hzs hsz hty w0.heap.size (rng w0.heap.size wr.heap.size) (rng wr.heap.size w1.heap.size) v xs c y cc hs qb hx hq (own_next M.1 hb) Y (rng_dis (.inl (Nat.le_refl _))) (fun k hk => hk.1) (fun k hk => Nat.le_trans h0 hk.1) h1.size hone hlen hbytes ?_;intro g' cap' w2 N1 N2;exact k g' cap' w2 ⟨N1, below_by h1 h1.size N2 (fun k hk => hk.1)⟩ (N2.mono (fun k hk => ⟨hk.1.1, hk.2⟩))
theorem made_cap {α : Type} {e : TypeId} {R : Rep α} (w : World) (cur : Array Value) (n : Nat) (hm : n ≤ maxLen) (hs : cur.size = n * R.size) : MadeR (slR e R) w (w.alloc (.cells cur e)) [.slice (some ⟨w.heap.size, 0, none⟩) 0 n] [] := by
 refine ⟨⟨_, [], fun _ => False, rfl, World.ownsRow_made (base := 0) (e := e) (size := R.size) w cur n (Nat.zero_le _) hm hs, fun g hg => ?_, fun _ h => h.elim, rfl⟩, box_below w _⟩;simp [Value.ownBlock] at hg
 subst hg;exact ⟨⟨Nat.le_refl _, by simp⟩, fun h => h⟩
theorem made_from {α : Type} {Q : Rep α} {w u wr : World} {cs : List Value} {xs : α} (B : Below w.heap.size w u) (M : MadeR Q u wr cs xs) : MadeR Q w wr cs xs :=
 ⟨Q.own_mono M.1 (rng_sub B.size (Nat.le_refl _)), below_step B M.2⟩
theorem Tryz.infoI8 : (Tryz.prog.info? 2).map (fun i => (i.zero, i.size, i.bytes)) = some (some (.int .i64 0), 1, 8) := by kernel_rfl
theorem states_step {x : FabricD} {k : Int} {j : Nat} {u : CoreD} (h : x.2.2.1[j]? = some u) : (statesI x k).take j ++ [stateOf u k] = (statesI x k).take (j + 1) := by
 unfold statesI;rw [List.take_add_one, List.getElem?_map, h];rfl
theorem states_len (x : FabricD) (k : Int) : (statesI x k).length = x.2.2.1.length := by simp [statesI]
theorem field_state (a b c : Value) (W : World) : (Instr.field 88 (.agg #[a, b, c]) 1).run Tryz.prog W = .ok b W := by kernel_rfl
set_option maxHeartbeats 4000000 in
set_option maxRecDepth 20000 in
theorem l17States_u (x : FabricD) (a1 : Option Addr) (c1 : Nat) (b1 : Option Addr) (d1 : Nat) (a2 : Option Addr) (c2 : Nat) (a3 : Option Addr) (c3 : Nat) (b3 : Option Addr) (d3 : Nat) (a4 : Option Addr) (c4 : Nat) (a5 : Option Addr) (c5 : Nat) (w : World) (R : FabRd w x a1 c1 b1 d1 a2 c2 a3 c3 b3 d3 a4 c4 a5 c5) (hf : fabI x = true) (k : Int) :
    Calls Tryz.prog 28 #[.agg #[.int .i64 x.1.1, .int .i64 x.1.2.1, .int .i64 x.1.2.2.1, .int .i64 x.1.2.2.2, .slice a1 x.2.1.1.length c1, .slice b1 x.2.1.2.length d1, .slice a2 x.2.2.1.length c2, .slice a3 x.2.2.2.1.1.length c3, .int .i64 x.2.2.2.1.2.1, .bool x.2.2.2.1.2.2.1, .slice b3 x.2.2.2.1.2.2.2.length d3, .slice a4 x.2.2.2.2.1.length c4, .slice a5 x.2.2.2.2.2.length c5], .int .i64 k] w fun e w' => ∃ v, e = .returned v ∧ MadeR intsR w w' [v] (statesI x k) := by
 have RR : Hid (∀ W, Below w.heap.size w W → SlRd coreR W a2 x.2.2.1) := fun W hb => (fab_next R hb).cores;have HOK : Hid (∀ u, u ∈ x.2.2.1 → OkC isL treeB u.1) := fun u hu => fab_core hf hu;have hl4 : x.2.2.1.length ≤ 4 := by
  obtain ⟨⟨hc1, hc4⟩, hcl, -⟩ := fab_facts hf;omega
 have B := Below.refl w.heap.size w;clear R hf;go_enter Tryz.func28, Tryz.ntmps28;go_upto_region 1 with fail
 generalize hu1w : w.alloc _ = u1w;have F := boxH hu1w;have bz := boxB hu1w;have zF := boxL hu1w;clear hu1w;replace B := below_step B bz;clear bz;clear zF;have HB : Hid _ := B;have HF : Hid _ := F;have MN := made_cap (e := 2) (R := intR) u1w #[] 0 (Nat.zero_le _) rfl;clear F B;go_wp2;generalize u1w.alloc (.cells #[] 2) = u2w at MN ⊢;go_loopw [5, 6] (fun r i wr => ∃ j : Nat, j ≤ x.2.2.1.length ∧ i = .int .i64 j ∧ ∃ pa pc, r = .slice pa j pc ∧ MadeR intsR u1w wr [.slice pa j pc] ((statesI x k).take j)) (fun _ i _ => x.2.2.1.length - (intOf i).toNat)
 case atStart => exact ⟨0, Nat.zero_le _, rfl, _, _, rfl, MN⟩
 case round =>
  clear MN;obtain ⟨j, hj, rfl, pa, pc, rfl, M⟩ := hrel;have F := row_keep M.2 HF.out;obtain ⟨p0, p1, p2, p3, p4, p5, p6, p7, p8, p9, p10, p11, p12⟩ := cells_fabric F;clear F;by_cases hlt : j < x.2.2.1.length
  ·have hlt' : (j : Int) < (x.2.2.1.length : Int) := by omega
   obtain ⟨u, hx⟩ : ∃ u, x.2.2.1[j]? = some u := ⟨_, List.getElem?_eq_getElem hlt⟩;obtain ⟨bb, off, cs, ra, hrdx, hcell⟩ := slrd_at (RR.out _ (below_step HB.out M.2)) hx;have HC := l17Has_u cs u k wr wr (HOK.out u (List.mem_of_getElem? hx)) hrdx (Below.refl _ _);obtain ⟨ga, gc, gb, gd, ha, hc, ia, ic, ja, jc, rfl⟩ := core_shape hrdx;rw [show aggV _ = .agg _ from rfl] at HC;obtain ⟨x0, x1, x2, x3, x4, x5, x6, x7, x8⟩ := cellsAt9 hcell rfl;subst ra;have HTK : Hid _ := states_step (k := k) hx;have HTL : Hid (((statesI x k).take j).length = j) := by unfold Hid; rw [List.length_take, states_len]; omega
   obtain ⟨ti, hi, hz0, hz1, hz2⟩ := info_parts Tryz.infoI8;generalize (statesI x k).take j = sj at HTK HTL M;have HM : Hid _ := M;clear hcell hrdx hx M;go_wp2_with fail
   clear x0 x1 x2 x3 x4 x5 x6 x7 x8 p0 p1 p2 p3 p4 p5 p6 p7 p8 p9 p10 p11 p12;refine HC.mono ?_;rintro e w9 ⟨us, rfl, hr, bq⟩;clear HC;have hr1 := hr w9 bq;obtain ⟨ea, ec, rfl, -, i1, -, -, -⟩ := way_rd hr1;rw [show aggV _ = .agg _ from rfl];clear hr hr1;have FW : ∀ (a b c : Value) (W : World), (Instr.field 88 (.agg #[a, b, c]) 1).run Tryz.prog W = .ok b W := field_state;go_wp2_with (at_builtin; refine wpList_pm (w0 := u1w) (wr := wr) (w1 := w9) rfl _ _ 37 rfl intR 2 ti (.int .i64 0) 8 Tryz.underlying37 hi hz0 hz1 hz2 rfl (by decide) (by decide) (.slice pa j pc) sj [.int .i64 (wayOf u.1 k).2.1] (stateOf u k) 1 rfl _ rfl rfl HM.out bq ⟨rfl, i1⟩ ?c1 ?c2 ?c3 ?_)
   case c1 => intro q hq; simp at hq; subst hq; rfl
   case c2 => rw [HTL.out]; unfold maxLen; omega
   case c3 => rw [HTL.out]; omega
   intro g' cap' w2 NM NC;rw [show sj.length = j from HTL.out] at NM ⊢;rw [HTK.out] at NM;have HNM : Hid _ := NM;clear NM NC HM;go_wp2;go_roundw
   case rel => exact ⟨j + 1, by omega, by go_num, _, _, rfl, HNM.out⟩
   case measure => simp [intOf]; omega
  ·have hjn : j = (statesI x k).length := by rw [states_len]; omega
   have HM : Hid (MadeR intsR w wr [.slice pa j pc] (statesI x k)) := by
    unfold Hid;subst hjn;rw [List.take_length] at M;exact made_from HB.out M
   clear M;go_wp2;go_ret
   exact ⟨_, rfl, HM.out⟩
end Go.Proofs.YtcocbafhcpdheaaGreatDoor
