import Derived.Test.YtcocbafhcpdheaaGreatDoorS00Box
import Derived.Test.YtcocbafhcpdheaaGreatDoorS49
namespace Go.Proofs.YtcocbafhcpdheaaGreatDoor
set_option maxHeartbeats 4000000
set_option maxRecDepth 20000
open Go.ChangeShapes Go.WideShapes Go.ChangeAt Go.RowKit
set_option linter.unusedVariables false
theorem specFab_u (cs : List Value) (x : FabricD) (w : World) (h : fabricR.rd w cs x) (hbk : fabricM.bk x ≤ 1048576) :
    Calls Tryz.prog 49 #[aggV cs] w fun e w' => e = .returned (.bool (fabI x)) ∧ Below w.heap.size w w' := by
 rw [← fab_eq];exact specFabricOk_u cs x w h hbk
variable {α : Type}
theorem appR_sep {base : Nat} {e : TypeId} {R : Rep α} {S T : Foot} {w w2 : World} {o : Obj} {v v' : Value} {xs : List α} {c : List Value} {x : α} (hty : e ∉ R.tys) (h : (slR e R).own w S [v] xs) (s : R.own w T c x) (hd : Dis S T) (hSb : ∀ k, S k → base ≤ k) (hTb : ∀ k, T k → base ≤ k)
    (happ : ∀ b, w.ownsRow base e R.size v xs.length b → w2.ownsRow base e R.size v' (xs.length + 1) (b ++ c)) (hg : (w.alloc o).grownBy w2 v.ownBlock) :
    (slR e R).own w2 (rng base w2.heap.size) [v'] (xs ++ [x]) ∧ Chg (Old w S) w w2 := by
 obtain ⟨v1, b, G, A, D, f, y, H⟩ := own_old h;simp only [List.cons.injEq, and_true] at A;subst A;have m := happ b (row_base D fun g h => hSb g (f g h).1.1);have s := R.own_tight (own_old s);have lt := lown_tight H;have s2 : w.heap.size + 1 ≤ w2.heap.size := by have := hg.size; simpa using this
 have a : ∀ k, k < w.heap.size → v.ownBlock ≠ some k → w2.heap[k]? = w.heap[k]? := fun k hk l => by
  rw [hg.block k (by simp; omega) (fun e => l e.symm), Below.heap_alloc w o k hk]
 have F := lown_keep (w' := w2) lt fun k hk j => a k j (fun e => (f k e).2 hk.1);have E := R.own_keep (w' := w2) s fun k hk j => a k j (fun e => hd k (f k e).1.1 hk.1.1);refine ⟨⟨v', b ++ c, (fun k => (G k ∧ ∃ d t, t ∈ R.tys ∧ w.heap[k]? = some (.cells d t (0, 0))) ∨ (Old w T k ∧ ∃ d t, t ∈ R.tys ∧ w.heap[k]? = some (.cells d t (0, 0)))), rfl, by rw [List.length_append]; exact row_base m (fun _ _ => Nat.zero_le _), fun g hg' => ?_, ?_, lown_push F E ?_ (fun k h => .inl h) (fun k h => .inr h)⟩, ?_⟩
 ·obtain ⟨d, p⟩ := row_block m hg';have r := World.ownsRow.lt m g hg';refine ⟨⟨r.1, r.2⟩, ?_⟩;have q : (∃ d t, t ∈ R.tys ∧ w.heap[g]? = some (.cells d t (0, 0))) → v.ownBlock ≠ some g → False := by
   rintro ⟨z, t, C, B⟩ l;have j : g < w.heap.size := (ltH B);have := a g j l;rw [p, B] at this;simp at this
   rw [this.2] at hty;exact hty C
  rintro (⟨i, n⟩ | ⟨i, n⟩)
  ·exact q n (fun e => (f g e).2 i)
  ·exact q n (fun e => hd g (f g e).1.1 i.1)
 ·rintro k (⟨i, _⟩ | ⟨i, _⟩)
  ·exact ⟨hSb k (y k i).1, by have := (y k i).2; omega⟩
  ·exact ⟨hTb k i.1, by have := i.2; omega⟩
 ·rintro k ⟨i, _⟩ ⟨n, _⟩;exact hd k (y k i).1 n.1
 ·exact ⟨hg.os, hg.tape, hg.output, by omega, fun k hk hn => a k hk (fun e => hn (f k e).1)⟩
theorem wpList_push {P : Program} {w : World} {ops : Array Oper} {rest : List Oper} {o : Oper} {a : Act} {Q : Exit → Act → World → Prop} (hgd : o.guard = none) (s x : Operand) (t : TypeId)
    (ho : o.op = .call { callee := .builtin .append, args := #[s, x], argTypes := #[t, t] })
    (R : Rep α) (e : TypeId) (i : TypeInfo) (z : Value) (bytes : Nat) (ht : P.underlying t = some (.slice e)) (hi : P.info? e = some i) (hz : i.zero = some z) (hsize : i.size = R.size) (hby : i.bytes = bytes) (hzs : z.cells.size = R.size) (hsz : 0 < R.size) (hty : e ∉ R.tys)
    (base : Nat) (S T : Foot) (v : Value) (xs : List α) (c : List Value) (y : α) (cc : Nat) (hs : a.eval s = v) (qb : Nat) (hx : a.eval x = .slice (some ⟨qb, 0, none⟩) 1 cc) (hq : qb = w.heap.size)
    (h : (slR e R).own w S [v] xs) (hy : R.own w T c y) (hd : Dis S T) (hSb : ∀ k, S k → base ≤ k) (hTb : ∀ k, T k → base ≤ k) (hb : base ≤ w.heap.size) (hone : ∀ u ∈ c, u.oneCell' = true) (hlen : xs.length + 1 ≤ maxLen) (hbytes : (xs.length + 1) * bytes ≤ 140737488355328)
    (k : ∀ p f w2, (slR e R).own w2 (rng base w2.heap.size) [.slice (some ⟨p, 0, none⟩) (xs.length + 1) f] (xs ++ [y]) → Chg (Old w S) w w2 → wpList P ops Q rest (a.put o.dst (.slice (some ⟨p, 0, none⟩) (xs.length + 1) f)) w2) :
    wpList P ops Q (o :: rest) a (w.alloc (.cells c.toArray e)) := by
 subst hq;have C := h;obtain ⟨v1, b, S', A, F, q, E, B⟩ := C;simp only [List.cons.injEq, and_true] at A;subst A;have l : w.ownsRow base e R.size v xs.length b := row_base F fun g hg => hSb g (q g hg).1;have m : (w.alloc (.cells c.toArray e)).ownsRow base e R.size v xs.length b := orow_keep l fun g hg => by
  have B := World.ownsRow.lt l g hg;rw [Below.heap_alloc _ _ _ B.2]
 have n : c.length = 1 * R.size := by rw [R.rd_len (R.own_rd hy)]; omega
 refine wpList_append_own (w.alloc (.cells c.toArray e)) hgd s x t ho base e i z R.size bytes ht hi hz hsize hby hzs hsz v xs.length b hs m ⟨w.heap.size, 0, none⟩ 1 cc c hx n (cells_news w c e) hone hlen hbytes (by simp; omega) ?_;intro v' w9 d j r;obtain ⟨p, f, rfl⟩ := owns_shape d;obtain ⟨D, G⟩ := appR_sep (base := base) (e := e) (R := R) hty h hy hd hSb hTb (fun rows2 hr2 => by rw [rows_unique hr2 l]; exact d) j;exact k _ _ _ D G
set_option linter.unusedSimpArgs false
theorem below_by {B : Nat} {w0 w1 w2 : World} {S : Foot} (h : Below B w0 w1) (hB : B ≤ w1.heap.size) (n : Chg (Old w1 S) w1 w2) (hs : ∀ k, S k → B ≤ k) : Below B w0 w2 :=
 ⟨n.os.trans h.os, n.tape.trans h.tape, n.output.trans h.output, Nat.le_trans h.size n.size, fun j hj => (n.block j (Nat.lt_of_lt_of_le hj hB) (fun q => by have := hs j q.1; omega)).trans (h.block j hj)⟩
theorem wpList_pm {α : Type} {P : Program} {w0 wr w1 : World} {ops : Array Oper} {rest : List Oper} {o : Oper} {a : Act} {Q : Exit → Act → World → Prop} (hgd : o.guard = none) (s x : Operand) (t : TypeId)
    (ho : o.op = .call { callee := .builtin .append, args := #[s, x], argTypes := #[t, t] })
    (R : Rep α) (e : TypeId) (i : TypeInfo) (z : Value) (bytes : Nat) (ht : P.underlying t = some (.slice e)) (hi : P.info? e = some i) (hz : i.zero = some z) (hsize : i.size = R.size) (hby : i.bytes = bytes) (hzs : z.cells.size = R.size) (hsz : 0 < R.size) (hty : e ∉ R.tys)
    (v : Value) (xs : List α) (c : List Value) (y : α) (cc : Nat) (hs : a.eval s = v) (qb : Nat) (hx : a.eval x = .slice (some ⟨qb, 0, none⟩) 1 cc) (hq : qb = w1.heap.size)
    (M : MadeR (slR e R) w0 wr [v] xs) (hb : Below wr.heap.size wr w1) (Y : R.own w1 (rng wr.heap.size w1.heap.size) c y) (hone : ∀ u ∈ c, u.oneCell' = true) (hlen : xs.length + 1 ≤ maxLen) (hbytes : (xs.length + 1) * bytes ≤ 140737488355328)
    (k : ∀ f b d, MadeR (slR e R) w0 d [.slice (some ⟨f, 0, none⟩) (xs.length + 1) b] (xs ++ [y]) → Chg (rng w0.heap.size w1.heap.size) w1 d → wpList P ops Q rest (a.put o.dst (.slice (some ⟨f, 0, none⟩) (xs.length + 1) b)) d) :
    wpList P ops Q (o :: rest) a (w1.alloc (.cells c.toArray e)) := by
 have l := M.2.size;have g := below_step M.2 hb;refine wpList_push hgd s x t ho R e i z bytes ht hi hz hsize hby hzs hsz hty w0.heap.size (rng w0.heap.size wr.heap.size) (rng wr.heap.size w1.heap.size) v xs c y cc hs qb hx hq (own_next M.1 hb) Y (rng_dis (.inl (Nat.le_refl _))) (fun k hk => hk.1) (fun k hk => Nat.le_trans l hk.1) g.size hone hlen hbytes ?_;intro f b d m j;exact k f b d ⟨m, below_by g g.size j (fun k hk => hk.1)⟩ (j.mono (fun k hk => ⟨hk.1.1, hk.2⟩))
theorem made_cap {α : Type} {e : TypeId} {R : Rep α} (w : World) (cur : Array Value) (n : Nat) (hm : n ≤ maxLen) (hs : cur.size = n * R.size) : MadeR (slR e R) w (w.alloc (.cells cur e)) [.slice (some ⟨w.heap.size, 0, none⟩) 0 n] [] := by
 refine ⟨⟨_, [], fun _ => False, rfl, World.ownsRow_made (base := 0) (e := e) (size := R.size) w cur n (Nat.zero_le _) hm hs, fun g hg => ?_, fun _ h => h.elim, rfl⟩, box_below w _⟩;simp [Value.ownBlock] at hg
 subst hg;exact ⟨⟨Nat.le_refl _, by simp⟩, fun h => h⟩
theorem made_from {α : Type} {Q : Rep α} {w u wr : World} {cs : List Value} {xs : α} (B : Below w.heap.size w u) (M : MadeR Q u wr cs xs) : MadeR Q w wr cs xs :=
 ⟨Q.own_mono M.1 (rng_sub B.size (Nat.le_refl _)), below_step B M.2⟩
theorem Tryz.infoI8 : (Tryz.prog.info? 2).map (fun i => (i.zero, i.size, i.bytes)) = some (some (.int .i64 0), 1, 8) := by kernel_rfl
theorem states_step {x : FabricD} {k : Int} {j : Nat} {u : CoreD} (h : x.2.2.1[j]? = some u) : (statesI x k).take j ++ [stateOf u k] = (statesI x k).take (j + 1) := by
 unfold statesI;rw [List.take_add_one, List.getElem?_map, h];rfl
theorem states_len (x : FabricD) (k : Int) : (statesI x k).length = x.2.2.1.length := by simp [statesI]
theorem field_state (a b c : Value) (W : World) : (Instr.field 88 (.agg #[a, b, c]) 1).run Tryz.prog W = .ok b W := by kernel_rfl
theorem l17States_u (x : FabricD) (a1 : Option Addr) (c1 : Nat) (b1 : Option Addr) (d1 : Nat) (a2 : Option Addr) (c2 : Nat) (a3 : Option Addr) (c3 : Nat) (b3 : Option Addr) (d3 : Nat) (a4 : Option Addr) (c4 : Nat) (a5 : Option Addr) (c5 : Nat) (w : World) (R : FabRd w x a1 c1 b1 d1 a2 c2 a3 c3 b3 d3 a4 c4 a5 c5) (hf : fabI x = true) (k : Int) :
    Calls Tryz.prog 28 #[.agg #[.int .i64 x.1.1, .int .i64 x.1.2.1, .int .i64 x.1.2.2.1, .int .i64 x.1.2.2.2, .slice a1 x.2.1.1.length c1, .slice b1 x.2.1.2.length d1, .slice a2 x.2.2.1.length c2, .slice a3 x.2.2.2.1.1.length c3, .int .i64 x.2.2.2.1.2.1, .bool x.2.2.2.1.2.2.1, .slice b3 x.2.2.2.1.2.2.2.length d3, .slice a4 x.2.2.2.2.1.length c4, .slice a5 x.2.2.2.2.2.length c5], .int .i64 k] w fun e w' => ∃ v, e = .returned v ∧ MadeR intsR w w' [v] (statesI x k) := by
 have RR : Hid (∀ W, Below w.heap.size w W → SlRd coreR W a2 x.2.2.1) := fun W hb => (fab_next R hb).cores;have D : Hid (∀ u, u ∈ x.2.2.1 → OkC isL treeB u.1) := fun u hu => fab_core hf hu;have kA : x.2.2.1.length ≤ 4 := by
  obtain ⟨⟨BA, sA⟩, CA, -⟩ := fab_facts hf;omega
 have B := Below.refl w.heap.size w;clear R hf;go_enter Tryz.func28, Tryz.ntmps28;go_upto_region 1 with fail
 generalize d : w.alloc _ = u1w;have F := boxH d;have Z := boxB d;have zF := boxL d;clear d;replace B := below_step B Z;clear Z;clear zF;have X : Hid _ := B;have HF : Hid _ := F;have H := made_cap (e := 2) (R := intR) u1w #[] 0 (Nat.zero_le _) rfl;clear F B;go_wp2;generalize u1w.alloc (.cells #[] 2) = u2w at H ⊢;go_loopw [5, 6] (fun r i wr => ∃ j : Nat, j ≤ x.2.2.1.length ∧ i = .int .i64 j ∧ ∃ p n, r = .slice p j n ∧ MadeR intsR u1w wr [.slice p j n] ((statesI x k).take j)) (fun _ i _ => x.2.2.1.length - (intOf i).toNat)
 case atStart => exact ⟨0, Nat.zero_le _, rfl, _, _, rfl, H⟩
 case round =>
  clear H;obtain ⟨j, hj, rfl, p, n, rfl, M⟩ := hrel;have F := row_keep M.2 HF.out;obtain ⟨p0, p1, p2, p3, p4, p5, p6, p7, p8, p9, C, N, E⟩ := cells_fabric F;clear F;by_cases I : j < x.2.2.1.length
  ·have U : (j : Int) < (x.2.2.1.length : Int) := by omega
   obtain ⟨u, y⟩ : ∃ u, x.2.2.1[j]? = some u := ⟨_, List.getElem?_eq_getElem I⟩;obtain ⟨bb, dA, cs, ra, g, f⟩ := slrd_at (RR.out _ (below_step X.out M.2)) y;have A := l17Has_u cs u k wr wr (D.out u (List.mem_of_getElem? y)) g (Below.refl _ _);obtain ⟨ga, gc, gb, gd, ha, hc, ia, ic, ja, jc, rfl⟩ := core_shape g;rw [show aggV _ = .agg _ from rfl] at A;obtain ⟨x0, x1, x2, x3, x4, x5, x6, x7, x8⟩ := cellsAt9 f rfl;subst ra;have m : Hid _ := states_step (k := k) y;have l : Hid (((statesI x k).take j).length = j) := by unfold Hid; rw [List.length_take, states_len]; omega
   obtain ⟨ti, hi, O, J, L⟩ := info_parts Tryz.infoI8;generalize (statesI x k).take j = sj at m l M;have s : Hid _ := M;clear f g y M;go_wp2_with fail
   clear x0 x1 x2 x3 x4 x5 x6 x7 x8 p0 p1 p2 p3 p4 p5 p6 p7 p8 p9 C N E;refine A.mono ?_;rintro e S ⟨us, rfl, Y, T⟩;clear A;have o := Y S T;obtain ⟨ea, ec, rfl, -, i1, -, -, -⟩ := way_rd o;rw [show aggV _ = .agg _ from rfl];clear Y o;have FW : ∀ (a b c : Value) (W : World), (Instr.field 88 (.agg #[a, b, c]) 1).run Tryz.prog W = .ok b W := field_state;go_wp2_with (at_builtin; refine wpList_pm (w0 := u1w) (wr := wr) (w1 := S) rfl _ _ 37 rfl intR 2 ti (.int .i64 0) 8 Tryz.underlying37 hi O J L rfl (by decide) (by decide) (.slice p j n) sj [.int .i64 (wayOf u.1 k).2.1] (stateOf u k) 1 rfl _ rfl rfl s.out T ⟨rfl, i1⟩ ?c1 ?c2 ?c3 ?_)
   case c1 => intro q V; simp at V; subst V; rfl
   case c2 => rw [l.out]; unfold maxLen; omega
   case c3 => rw [l.out]; omega
   intro g' aA w2 z NC;rw [show sj.length = j from l.out] at z ⊢;rw [m.out] at z;have K : Hid _ := z;clear z NC s;go_wp2;go_roundw
   case rel => exact ⟨j + 1, by omega, by go_num, _, _, rfl, K.out⟩
   case measure => simp [intOf]; omega
  ·have G : j = (statesI x k).length := by rw [states_len]; omega
   have s : Hid (MadeR intsR w wr [.slice p j n] (statesI x k)) := by
    unfold Hid;subst G;rw [List.take_length] at M;exact made_from X.out M
   clear M;go_wp2;go_ret
   exact ⟨_, rfl, s.out⟩
theorem l17Line_u (x : FabricD) (a1 : Option Addr) (c1 : Nat) (b1 : Option Addr) (d1 : Nat) (a2 : Option Addr) (c2 : Nat) (a3 : Option Addr) (c3 : Nat) (b3 : Option Addr) (d3 : Nat) (a4 : Option Addr) (c4 : Nat) (a5 : Option Addr) (c5 : Nat) (w : World) (R : FabRd w x a1 c1 b1 d1 a2 c2 a3 c3 b3 d3 a4 c4 a5 c5) (h : fabricR.rd w [.int .i64 x.1.1, .int .i64 x.1.2.1, .int .i64 x.1.2.2.1, .int .i64 x.1.2.2.2, .slice a1 x.2.1.1.length c1, .slice b1 x.2.1.2.length d1, .slice a2 x.2.2.1.length c2, .slice a3 x.2.2.2.1.1.length c3, .int .i64 x.2.2.2.1.2.1, .bool x.2.2.2.1.2.2.1, .slice b3 x.2.2.2.1.2.2.2.length d3, .slice a4 x.2.2.2.2.1.length c4, .slice a5 x.2.2.2.2.2.length c5] x) (hbk : fabricM.bk x ≤ 1048576) (k : Int) :
    Calls Tryz.prog 27 #[.agg #[.int .i64 x.1.1, .int .i64 x.1.2.1, .int .i64 x.1.2.2.1, .int .i64 x.1.2.2.2, .slice a1 x.2.1.1.length c1, .slice b1 x.2.1.2.length d1, .slice a2 x.2.2.1.length c2, .slice a3 x.2.2.2.1.1.length c3, .int .i64 x.2.2.2.1.2.1, .bool x.2.2.2.1.2.2.1, .slice b3 x.2.2.2.1.2.2.2.length d3, .slice a4 x.2.2.2.2.1.length c4, .slice a5 x.2.2.2.2.2.length c5], .int .i64 k] w fun e w' => e = .returned (.bool (lineF x k)) ∧ Below w.heap.size w w' := by
 have f : Hid _ := fun (W : World) (hb : Below w.heap.size w W) => specFab_u [.int .i64 x.1.1, .int .i64 x.1.2.1, .int .i64 x.1.2.2.1, .int .i64 x.1.2.2.2, .slice a1 x.2.1.1.length c1, .slice b1 x.2.1.2.length d1, .slice a2 x.2.2.1.length c2, .slice a3 x.2.2.2.1.1.length c3, .int .i64 x.2.2.2.1.2.1, .bool x.2.2.2.1.2.2.1, .slice b3 x.2.2.2.1.2.2.2.length d3, .slice a4 x.2.2.2.2.1.length c4, .slice a5 x.2.2.2.2.2.length c5] x W (rd_next h hb) hbk;unfold lineF;clear R h;generalize fabI x = q1 at f ⊢;have B := Below.refl w.heap.size w;go_enter Tryz.func27, Tryz.ntmps27;go_upto_region 1 with fail
 generalize a : w.alloc _ = u1w;have F := boxH a;have i := boxB a;have j := boxL a;clear a;replace B := below_step B i;clear i;clear j;obtain ⟨Fc0, Fc1, Fc2, Fc3, Fc4, Fc5, Fc6, Fc7, Fc8, Fc9, Fc10, Fc11, Fc12⟩ := cells_fabric F;have Flt := (ltH F);go_wp2_with fail
 clear Fc0 Fc1 Fc2 Fc3 Fc4 Fc5 Fc6 Fc7 Fc8 Fc9 Fc10 Fc11 Fc12 Flt;refine (f.out _ B).mono ?_;rintro e l ⟨rfl, c⟩;replace B := below_step B c;replace F := row_keep c F;clear c;cases q1
 ·skip
  obtain ⟨Fc0, Fc1, Fc2, Fc3, Fc4, Fc5, Fc6, Fc7, Fc8, Fc9, Fc10, Fc11, Fc12⟩ := cells_fabric F;have Flt := (ltH F);have b : Hid _ := B;clear B F;go_wp2;go_ret
  exact ⟨by simp, b.out⟩
 ·by_cases d : 0 ≤ k
  ·by_cases g : k < x.1.2.2.2
   ·skip
    obtain ⟨Fc0, Fc1, Fc2, Fc3, Fc4, Fc5, Fc6, Fc7, Fc8, Fc9, Fc10, Fc11, Fc12⟩ := cells_fabric F;have Flt := (ltH F);have b : Hid _ := B;clear B F;go_wp2;go_ret
    exact ⟨by simp [d, g], b.out⟩
   ·skip
    obtain ⟨Fc0, Fc1, Fc2, Fc3, Fc4, Fc5, Fc6, Fc7, Fc8, Fc9, Fc10, Fc11, Fc12⟩ := cells_fabric F;have Flt := (ltH F);have b : Hid _ := B;clear B F;go_wp2;go_ret
    exact ⟨by simp [d, g], b.out⟩
  ·have m : k < 0 := by omega
   obtain ⟨Fc0, Fc1, Fc2, Fc3, Fc4, Fc5, Fc6, Fc7, Fc8, Fc9, Fc10, Fc11, Fc12⟩ := cells_fabric F;have Flt := (ltH F);have b : Hid _ := B;clear B F;go_wp2;go_ret
   exact ⟨by simp; omega, b.out⟩
theorem specStatesOf_any (x : FabricD) (a1 : Option Addr) (c1 : Nat) (b1 : Option Addr) (d1 : Nat) (a2 : Option Addr) (c2 : Nat) (a3 : Option Addr) (c3 : Nat) (b3 : Option Addr) (d3 : Nat) (a4 : Option Addr) (c4 : Nat) (a5 : Option Addr) (c5 : Nat) (w : World) (R : FabRd w x a1 c1 b1 d1 a2 c2 a3 c3 b3 d3 a4 c4 a5 c5) (h : fabricR.rd w [.int .i64 x.1.1, .int .i64 x.1.2.1, .int .i64 x.1.2.2.1, .int .i64 x.1.2.2.2, .slice a1 x.2.1.1.length c1, .slice b1 x.2.1.2.length d1, .slice a2 x.2.2.1.length c2, .slice a3 x.2.2.2.1.1.length c3, .int .i64 x.2.2.2.1.2.1, .bool x.2.2.2.1.2.2.1, .slice b3 x.2.2.2.1.2.2.2.length d3, .slice a4 x.2.2.2.2.1.length c4, .slice a5 x.2.2.2.2.2.length c5] x) (hbk : fabricM.bk x ≤ 1048576) (k : Int) :
    Calls Tryz.prog 8 #[.agg #[.int .i64 x.1.1, .int .i64 x.1.2.1, .int .i64 x.1.2.2.1, .int .i64 x.1.2.2.2, .slice a1 x.2.1.1.length c1, .slice b1 x.2.1.2.length d1, .slice a2 x.2.2.1.length c2, .slice a3 x.2.2.2.1.1.length c3, .int .i64 x.2.2.2.1.2.1, .bool x.2.2.2.1.2.2.1, .slice b3 x.2.2.2.1.2.2.2.length d3, .slice a4 x.2.2.2.2.1.length c4, .slice a5 x.2.2.2.2.2.length c5], .int .i64 k] w fun e w' => ∃ v, e = .returned v ∧ MadeR intsR w w' [v] (stsI x k) := by
 have g : Hid _ := fun (W : World) (hb : Below w.heap.size w W) => l17Line_u x a1 c1 b1 d1 a2 c2 a3 c3 b3 d3 a4 c4 a5 c5 W (fab_next R hb) (rd_next h hb) hbk k;have B := Below.refl w.heap.size w;cases d : lineF x k
 ·have m : Hid (stsI x k = []) := by unfold Hid stsI; rw [d]; rfl
  rw [d] at g;clear R h;go_enter Tryz.func8, Tryz.ntmps8;go_upto_region 1 with fail
  generalize a : w.alloc _ = u1w;have F := boxH a;have f := boxB a;have j := boxL a;clear a;replace B := below_step B f;clear f;clear j;obtain ⟨Fc0, Fc1, Fc2, Fc3, Fc4, Fc5, Fc6, Fc7, Fc8, Fc9, Fc10, Fc11, Fc12⟩ := cells_fabric F;have Flt := (ltH F);go_wp2_with fail
  clear Fc0 Fc1 Fc2 Fc3 Fc4 Fc5 Fc6 Fc7 Fc8 Fc9 Fc10 Fc11 Fc12 Flt;refine (g.out _ B).mono ?_;rintro e b ⟨rfl, c⟩;replace B := below_step B c;replace F := row_keep c F;clear c;obtain ⟨Fc0, Fc1, Fc2, Fc3, Fc4, Fc5, Fc6, Fc7, Fc8, Fc9, Fc10, Fc11, Fc12⟩ := cells_fabric F;have Flt := (ltH F);have l : Hid (MadeR intsR w (b.alloc (.cells #[] 2)) [.slice (some ⟨b.heap.size, 0, none⟩) 0 0] (stsI x k)) := by
   unfold Hid;rw [m.out];exact made_from B (made_cap (e := 2) (R := intR) b #[] 0 (Nat.zero_le _) rfl)
  clear B F;go_wp2;go_ret
  exact ⟨_, rfl, l.out⟩
 ·have m : Hid (stsI x k = statesI x k) := by unfold Hid stsI; rw [if_pos d]
  have o : fabI x = true := by
   unfold lineF at d;simp only [Bool.and_eq_true] at d;exact d.1
  have n : Hid _ := fun (W : World) (hb : Below w.heap.size w W) => l17States_u x a1 c1 b1 d1 a2 c2 a3 c3 b3 d3 a4 c4 a5 c5 W (fab_next R hb) o k;rw [d] at g;clear R h;go_enter Tryz.func8, Tryz.ntmps8;go_upto_region 1 with fail
  generalize a : w.alloc _ = u1w;have F := boxH a;have f := boxB a;have j := boxL a;clear a;replace B := below_step B f;clear f;clear j;obtain ⟨Fc0, Fc1, Fc2, Fc3, Fc4, Fc5, Fc6, Fc7, Fc8, Fc9, Fc10, Fc11, Fc12⟩ := cells_fabric F;have Flt := (ltH F);go_wp2_with fail
  clear Fc0 Fc1 Fc2 Fc3 Fc4 Fc5 Fc6 Fc7 Fc8 Fc9 Fc10 Fc11 Fc12 Flt;refine (g.out _ B).mono ?_;rintro e b ⟨rfl, c⟩;replace B := below_step B c;replace F := row_keep c F;clear c;obtain ⟨Fc0, Fc1, Fc2, Fc3, Fc4, Fc5, Fc6, Fc7, Fc8, Fc9, Fc10, Fc11, Fc12⟩ := cells_fabric F;have Flt := (ltH F);go_wp2_with fail
  clear Fc0 Fc1 Fc2 Fc3 Fc4 Fc5 Fc6 Fc7 Fc8 Fc9 Fc10 Fc11 Fc12 Flt;refine (n.out _ B).mono ?_;rintro e i ⟨v, rfl, M⟩;have l : Hid (MadeR intsR w i [v] (stsI x k)) := by
   unfold Hid;rw [m.out];exact made_from B M
  clear B F M;go_wp2;go_ret
  exact ⟨_, rfl, l.out⟩
end Go.Proofs.YtcocbafhcpdheaaGreatDoor
