import Derived.Test.YtdamokokcdcedaaGreatDoorG00Box
import Derived.Test.YtdamokokcdcedaaGreatDoorG42
namespace Go.Proofs.YtdamokokcdcedaaGreatDoor
set_option maxHeartbeats 4000000
set_option maxRecDepth 20000
open Go.ChangeShapes Go.WideShapes Go.ChangeAt Go.RowKit
set_option linter.unusedVariables false
theorem wayK_of {c : CacheD} {M q : Nat} (h : OkC isL treeB c) (hrow : ∀ a ∈ c.1, a.length = M) (hM : 0 < M) (hq : q < c.1.length * M) {k : Int} (hk : 0 ≤ k) (e : (wayK c M q).1 = k) : wayOf c k = wayK c M q := by
 obtain ⟨a, i, g⟩ := wayK_get hM hrow hq;obtain ⟨h1, h2, m, hm, n⟩ := h;obtain ⟨-, -, j⟩ := n _ _ i;have l : setNo c k = q / M := by
  rcases j.1 _ _ g with d | ⟨-, d⟩
  ·unfold clearB at d;simp only [decide_eq_true_eq] at d;have o := d.1;rw [e] at o;omega
  ·unfold setNo;rw [← e, d];exact Int.toNat_natCast _
 have b : rowFor c k = a := by
  unfold rowFor;rw [l, List.getD_eq_getElem?_getD, i];rfl
 have f : atC c k = some (q % M) := at_iff (by rw [b]; exact j.2) hk (by rw [b]; exact g) e;unfold wayOf;rw [f];simp only
 rw [b];exact getD_of g
theorem wayK_none {c : CacheD} {M : Nat} (h : OkC isL treeB c) (hrow : ∀ row ∈ c.1, row.length = M) {k : Int} (hk : 0 ≤ k) (hn : ∀ q, q < c.1.length * M → (wayK c M q).1 ≠ k) : wayOf c k = emptyW := by
 unfold wayOf;cases b : atC c k with
 | none => rfl
 | some i =>
  exfalso
  obtain ⟨-, u, f, l⟩ := at_some b;obtain ⟨hp, a, -, -, -, d⟩ := ok_row h k;have hl := hrow _ (List.mem_of_getElem? a);have g : i < M := by have := (List.getElem?_eq_some_iff.1 f).1; omega
  have m : (setNo c k * M + i) / M = setNo c k := by rw [Nat.mul_comm, Nat.mul_add_div (by omega), Nat.div_eq_of_lt g, Nat.add_zero]
  have j : (setNo c k * M + i) % M = i := by rw [Nat.mul_comm, Nat.mul_add_mod, Nat.mod_eq_of_lt g]
  refine hn (setNo c k * M + i) ?_ ?_
  ·have : (setNo c k + 1) * M ≤ c.1.length * M := Nat.mul_le_mul_right _ d;rw [Nat.add_one_mul] at this;omega
  ·unfold wayK;rw [m, j];show ((rowFor c k).getD i emptyW).1 = k
   rw [show (rowFor c k).getD i emptyW = u from getD_of f];exact l
def cacheAt (x : FabricD) (i : Nat) : CacheD := match x.2.2.1[i]? with
 | some u => u.1
 | none => ([], [])
theorem cacheAt_of {x : FabricD} {i : Nat} {u : CoreD} (h : x.2.2.1[i]? = some u) : cacheAt x i = u.1 := by unfold cacheAt; rw [h]
def flF (x : FabricD) (T M : Nat) (k : Int) : Nat → List Int
 | 0 => x.2.1.1.getD k.toNat []
 | n + 1 => if (wayK (cacheAt x (n / T)) M (n % T)).1 = k ∧ 2 ≤ (wayK (cacheAt x (n / T)) M (n % T)).2.1 then (wayK (cacheAt x (n / T)) M (n % T)).2.2 else flF x T M k n
def flL (x : FabricD) (k : Int) : Nat → List Int
 | 0 => x.2.1.1.getD k.toNat []
 | n + 1 => if 2 ≤ (wayOf (cacheAt x n) k).2.1 then (wayOf (cacheAt x n) k).2.2 else flL x k n
def flushL (x : FabricD) : List (List Int) := (List.range x.1.2.2.2.toNat).map fun (k : Nat) => flL x k x.2.2.1.length
noncomputable def flushI (x : FabricD) : List (List Int) := if fabI x then flushL x else []
theorem pos_div {i p T : Nat} (h : p < T) : (i * T + p) / T = i ∧ (i * T + p) % T = p :=
 ⟨by rw [Nat.mul_comm, Nat.mul_add_div (by omega), Nat.div_eq_of_lt h, Nat.add_zero], by rw [Nat.mul_comm, Nat.mul_add_mod, Nat.mod_eq_of_lt h]⟩
theorem flF_step {x : FabricD} {i p T M : Nat} {u : CoreD} (hu : x.2.2.1[i]? = some u) (hp : p < T) (k : Int) : flF x T M k (i * T + p + 1) = if (wayK u.1 M p).1 = k ∧ 2 ≤ (wayK u.1 M p).2.1 then (wayK u.1 M p).2.2 else flF x T M k (i * T + p) := by
 rw [flF, (pos_div hp).1, (pos_div hp).2, cacheAt_of hu]
theorem flF_clear {x : FabricD} {i p T M : Nat} {u : CoreD} (hu : x.2.2.1[i]? = some u) (hp : p < T) (hc : clearB (wayK u.1 M p) = true) {k : Int} : flF x T M k (i * T + p + 1) = flF x T M k (i * T + p) := by
 rw [flF_step hu hp];unfold clearB at hc;simp only [decide_eq_true_eq] at hc;rw [if_neg (by omega)]
theorem flF_core {x : FabricD} {i T M : Nat} {u : CoreD} (hu : x.2.2.1[i]? = some u) (hok : OkC isL treeB u.1) (hrow : ∀ row ∈ u.1.1, row.length = M) (hM : 0 < M) (hT : u.1.1.length * M = T) {k : Int} (hk : 0 ≤ k) :
    flF x T M k (i * T + T) = if 2 ≤ (wayOf u.1 k).2.1 then (wayOf u.1 k).2.2 else flF x T M k (i * T) := by
 have l : ∀ p, p ≤ T → ((∃ q, q < p ∧ (wayK u.1 M q).1 = k ∧ 2 ≤ (wayK u.1 M q).2.1) ∧ flF x T M k (i * T + p) = (wayOf u.1 k).2.2) ∨ ((∀ q, q < p → ¬ ((wayK u.1 M q).1 = k ∧ 2 ≤ (wayK u.1 M q).2.1)) ∧ flF x T M k (i * T + p) = flF x T M k (i * T)) := by
  intro p;induction p with
  | zero => exact fun _ => .inr ⟨fun q c => by omega, rfl⟩
  | succ p ih =>
   intro hp;have f := flF_step (M := M) hu (show p < T by omega) k;by_cases a : (wayK u.1 M p).1 = k ∧ 2 ≤ (wayK u.1 M p).2.1
   ·rw [if_pos a] at f;refine .inl ⟨⟨p, by omega, a⟩, ?_⟩;rw [wayK_of hok hrow hM (by omega) hk a.1];exact f
   ·rw [if_neg a] at f;rcases ih (by omega) with ⟨⟨q, c, g⟩, b⟩ | ⟨g, b⟩
    ·exact .inl ⟨⟨q, by omega, g⟩, f.trans b⟩
    ·refine .inr ⟨fun q c => ?_, f.trans b⟩;by_cases m : q = p
     ·rw [m]; exact a
     ·exact g q (by omega)
 rcases l T (Nat.le_refl _) with ⟨⟨q, c, n, d⟩, b⟩ | ⟨g, b⟩
 ·rw [b, if_pos];rw [wayK_of hok hrow hM (by omega) hk n];exact d
 ·rw [b, if_neg];intro d;by_cases j : ∃ q, q < u.1.1.length * M ∧ (wayK u.1 M q).1 = k
  ·obtain ⟨q, c, a⟩ := j;rw [wayK_of hok hrow hM c hk a] at d;exact g q (by omega) ⟨a, d⟩
  ·rw [wayK_none hok hrow hk (fun q c e => j ⟨q, c, e⟩)] at d;simp [emptyW] at d
theorem flF_all {x : FabricD} {T M : Nat} (h : fabI x = true) (hM : 0 < M) (hx : ∀ u ∈ x.2.2.1, u.1.1.length * M = T ∧ ∀ row ∈ u.1.1, row.length = M) {k : Int} (hk : 0 ≤ k) : ∀ n, n ≤ x.2.2.1.length → flF x T M k (n * T) = flL x k n
 | 0, _ => by rw [Nat.zero_mul]; rfl
 | n + 1, hn => by
  obtain ⟨u, a⟩ : ∃ u, x.2.2.1[n]? = some u := ⟨_, List.getElem?_eq_getElem (by omega)⟩;obtain ⟨c, b⟩ := hx u (List.mem_of_getElem? a);rw [Nat.add_one_mul, flF_core a (fab_core h (List.mem_of_getElem? a)) b hM c hk, flF_all h hM hx hk n (by omega), flL, cacheAt_of a]
theorem flL_isL {x : FabricD} (h : fabI x = true) {k : Int} (hk : 0 ≤ k) (hm : isL (x.2.1.1.getD k.toNat []) = true) : ∀ n, n ≤ x.2.2.1.length → isL (flL x k n) = true
 | 0, _ => hm
 | n + 1, hn => by
  obtain ⟨u, g⟩ : ∃ u, x.2.2.1[n]? = some u := ⟨_, List.getElem?_eq_getElem (by omega)⟩;rw [flL, cacheAt_of g];by_cases b : 2 ≤ (wayOf u.1 k).2.1
  ·rw [if_pos b];have d := fab_core h (List.mem_of_getElem? g);cases a : atC u.1 k with
   | none => unfold wayOf at b; rw [a] at b; simp [emptyW] at b
   | some i =>
    obtain ⟨-, v, j, he⟩ := at_some a;have l : wayOf u.1 k = v := by unfold wayOf; rw [a]; exact getD_of j
    obtain ⟨hp, f, -⟩ := ok_row d k;obtain ⟨-, -, m, -, o⟩ := d;rw [l] at b ⊢;rcases (o _ _ f).2.2.1 _ _ j with c | ⟨c, -⟩
    ·unfold clearB at c;simp only [decide_eq_true_eq] at c;omega
    ·unfold fullB at c;simp only [decide_eq_true_eq] at c;exact c.2.2
  ·rw [if_neg b];exact flL_isL h hk hm n (by omega)
theorem froz_way {w : World} {g : Nat} {cs : Array Value} {t : TypeId} (h : w.heap[g]? = some (.cells cs t (0, 0))) : w.frozen? ⟨g, 0, none⟩ = false ∧ w.frozen? ⟨g, 1, none⟩ = false ∧ w.frozen? ⟨g, 2, none⟩ = false :=
 ⟨frozen_of_row w g 0 _ _ h, frozen_of_row w g 1 _ _ h, frozen_of_row w g 2 _ _ h⟩
theorem specWay_u (A : List Value) (c : CacheD) (k : Int) (w : World) (hok : OkC isL treeB c) (h : cacheR.rd w A c) :
    Calls Tryz.prog 108 #[aggV A, nI k] w fun e G => ∃ us, e = .returned (aggV us) ∧ wayR.rd G us (wayOf c k) ∧ Bl w G := by
 have j : Hid _ := fun (W : World) (hb : Bl w W) => specAt_u A c k W hok (rd_next h hb);obtain ⟨a, i, b, z, rfl, l1, l2, m1, m2, F, h2⟩ := cache_rd h;cases f : atC c k with
 | none =>
  rw [f] at j;have C : wayOf c k = emptyW := by unfold wayOf; rw [f]
  rw [C];clear h F h2 hok f C;rw [aE] at j ⊢;have X := heap_on (.cells #[nI 0, nI 0, sL none 0 0] 74) (heap_at w (.cells #[sL a c.1.length i, sL b c.2.length z] 95));have Y := heap_at (w.alloc (.cells #[sL a c.1.length i, sL b c.2.length z] 95)) (.cells #[nI 0, nI 0, sL none 0 0] 74);rw [alloc_len] at Y;have B := below_step (box_below w (.cells #[sL a c.1.length i, sL b c.2.length z] 95)) (box_below _ (.cells #[nI 0, nI 0, sL none 0 0] 74));go_enter Tryz.func108, Tryz.ntmps108;go_wp2_with fail
  generalize (w.alloc (.cells #[sL a c.1.length i, sL b c.2.length z] 95)).alloc (.cells #[nI 0, nI 0, sL none 0 0] 74) = W0 at X Y B ⊢;refine (j.out _ B).mono ?_;rintro e w1 ⟨rfl, r⟩;replace X := row_keep r X;replace Y := row_keep r Y;replace B := below_step B r;clear r X j;rw [show idxI (none : Option Nat) = -1 from rfl];go_wp2_with fail
  refine (l6Empty_u _).mono ?_;rintro e w2 ⟨ds, rfl, E⟩;have I := E.2;obtain ⟨l, m, rfl, -, -, -, -, hq⟩ := way_rd (wayR.own_rd E.1);rw [show aggV [nI emptyW.1, nI emptyW.2.1, sL l emptyW.2.2.length m] = .agg #[nI (-1), nI 0, sL l 0 m] from rfl];have D := owned_made (R := wayR) E;have yl := (ltH Y);replace Y := row_keep I Y;replace B := below_step B I;obtain ⟨y0, y1, y2⟩ := cells_three Y;obtain ⟨f0, f1, f2⟩ := froz_way Y;have S : Hid _ := aI Y (aI B D);clear Y B D E I hq;go_wp2;obtain ⟨Y, B, D⟩ := S.out;have V := row_setCs (g := w.heap.size + 1) [nI (-1), nI 0, sL l 0 m] 0 Y;obtain ⟨T, Z, r2⟩ := cells_three (show (((w2.setCell ⟨w.heap.size + 1, 0, none⟩ (nI (-1))).setCell ⟨w.heap.size + 1, 1, none⟩ (nI 0)).setCell ⟨w.heap.size + 1, 2, none⟩ (sL l 0 m)).heap[w.heap.size + 1]? = some (.cells #[nI (-1), nI 0, sL l 0 m] 74 (0, 0)) from V);refine bodyPost_ret (v := .agg #[nI (-1), nI 0, sL l 0 m]) (by simp [results, Tryz.results108, go_sem, T, Z, r2]) rfl ⟨[nI (-1), nI 0, sL l 0 m], rfl, ?_, below_setCs0 (g := w.heap.size + 1) (o := 0) (vs := [nI (-1), nI 0, sL l 0 m]) B (by omega)⟩;exact wayR.own_rd (own_setCs (g := w.heap.size + 1) (o := 0) (vs := [nI (-1), nI 0, sL l 0 m]) D.1 (fun q => by have := q.1; omega))
 | some fi =>
  obtain ⟨gA, u, K, lA⟩ := at_some f;have C : wayOf c k = u := by unfold wayOf; rw [f]; simp only; rw [List.getD_eq_getElem?_getD, K]; rfl
  rw [C];obtain ⟨hp, y, cA, fA, N, mA⟩ := ok_row hok k;obtain ⟨b0, o0, aj, U, rfl, k2, -, -, H⟩ := set_at F y;obtain ⟨bj, s, A, rfl, n, d⟩ := slrd_at H K;have p := n;obtain ⟨ad, J, rfl, i1, i2, -, -, oA⟩ := way_rd n;have M := d 0 _ rfl;have O := d 1 _ rfl;have L := d 2 _ rfl;rw [show s + (fi * wayR.size + 0) = s + fi * 3 from rfl] at M;rw [show s + (fi * wayR.size + 1) = s + fi * 3 + 1 from rfl] at O;rw [show s + (fi * wayR.size + 2) = s + fi * 3 + 2 from rfl] at L;refine (l6Way_in b c i z b0 o0 bj s U fi J ad k u.1 u.2.1 u.2.2 w hok F f k2 M O L).mono ?_;rintro e G ⟨rfl, r⟩;exact ⟨_, rfl, rd_next p r, r⟩
set_option linter.unusedSimpArgs false
theorem way_nil {w W : World} {us : List Value} (h : wayR.rd w us emptyW) : wayR.rd W us emptyW := by
 obtain ⟨b, g, rfl, a, c, d, f, -⟩ := way_rd h;exact ⟨[_], [_, _], rfl, ⟨rfl, a⟩, [_], [_], rfl, ⟨rfl, c⟩, b, g, rfl, d, f, .inl rfl⟩
theorem core_cache {w : World} {u : CoreD} {v0 v1 v2 v3 v4 v5 v6 v7 v8 : Value} (h : coreR.rd w [v0, v1, v2, v3, v4, v5, v6, v7, v8] u) : cacheR.rd w [v0, v1] u.1 := by
 obtain ⟨z0, z1, z2, z5, z6, z7, z8, e, a, -⟩ := core_rd h;simp only [List.cons.injEq, and_true] at e;obtain ⟨rfl, rfl, -⟩ := e;exact a
theorem specWay_v (m : List Value) (c : CacheD) (k : Int) (w W : World) (hok : OkC isL treeB c) (h : cacheR.rd w m c) (hb : Bl w W) :
    Calls Tryz.prog 108 #[aggV m, nI k] W fun e r => ∃ n, e = .returned (aggV n) ∧ (∀ W', Bl w W' → wayR.rd W' n (wayOf c k)) ∧ Bl W r := by
 cases f : atC c k with
 | none =>
  have s : wayOf c k = emptyW := by unfold wayOf; rw [f]
  refine (specWay_u m c k W hok (rd_next h hb)).mono ?_;rintro e r ⟨n, rfl, D, q⟩;refine ⟨n, rfl, fun W' _ => ?_, q⟩;rw [s] at D ⊢;exact way_nil D
 | some fi =>
  obtain ⟨a, y, b, S, rfl, l1, l2, m1, m2, C, h2⟩ := cache_rd h;obtain ⟨L, u, B, N⟩ := at_some f;have s : wayOf c k = u := by unfold wayOf; rw [f]; simp only; rw [List.getD_eq_getElem?_getD, B]; rfl
  rw [s];obtain ⟨hp, l, I, K, E, O⟩ := ok_row hok k;obtain ⟨H, M, aj, G, rfl, F, -, -, v⟩ := set_at C l;obtain ⟨R, j, m, rfl, g, d⟩ := slrd_at v B;have i := g;obtain ⟨J, z, rfl, i1, i2, -, -, T⟩ := way_rd g;have p := d 0 _ rfl;have A := d 1 _ rfl;have o := d 2 _ rfl;rw [show j + (fi * wayR.size + 0) = j + fi * 3 from rfl] at p;rw [show j + (fi * wayR.size + 1) = j + fi * 3 + 1 from rfl] at A;rw [show j + (fi * wayR.size + 2) = j + fi * 3 + 2 from rfl] at o;refine (l6Way_in b c y S H M R j G fi z J k u.1 u.2.1 u.2.2 W hok (slrd_next C hb) f (cell_keep hb F (cell_lt F)) (cell_keep hb p (cell_lt p)) (cell_keep hb A (cell_lt A)) (cell_keep hb o (cell_lt o))).mono ?_;rintro e r ⟨rfl, q⟩;exact ⟨_, rfl, fun W' hb' => rd_next i hb', q⟩
theorem l17Has_u (cs : List Value) (u : CoreD) (k : Int) (w W : World) (hok : OkC isL treeB u.1) (h : coreR.rd w cs u) (hb : Bl w W) :
    Calls Tryz.prog 54 #[aggV cs, nI k] W fun e w' => ∃ C, e = .returned (aggV C) ∧ (∀ W', Bl w W' → wayR.rd W' C (wayOf u.1 k)) ∧ Bl W w' := by
 obtain ⟨j, l, i, d, A, z, s, n, r, p, rfl⟩ := core_shape h;have G : Hid _ := fun (V : World) (hv : Bl w V) => specWay_v [sL j u.1.1.length l, sL i u.1.2.length d] u.1 k w V hok (core_cache h) hv;rw [aE];have X := heap_on (.cells #[nI 0, nI 0, sL none 0 0] 74) (heap_at W (.cells #[sL j u.1.1.length l, sL i u.1.2.length d, sL A u.2.1.length z, nI u.2.2.1, nI u.2.2.2.1, nI u.2.2.2.2.1.1, nI u.2.2.2.2.1.2.1, sL s u.2.2.2.2.1.2.2.length n, sL r u.2.2.2.2.2.length p] 98));have Y := heap_at (W.alloc (.cells #[sL j u.1.1.length l, sL i u.1.2.length d, sL A u.2.1.length z, nI u.2.2.1, nI u.2.2.2.1, nI u.2.2.2.2.1.1, nI u.2.2.2.2.1.2.1, sL s u.2.2.2.2.1.2.2.length n, sL r u.2.2.2.2.2.length p] 98)) (.cells #[nI 0, nI 0, sL none 0 0] 74);rw [alloc_len] at Y;have B := below_step (box_below W (.cells #[sL j u.1.1.length l, sL i u.1.2.length d, sL A u.2.1.length z, nI u.2.2.1, nI u.2.2.2.1, nI u.2.2.2.2.1.1, nI u.2.2.2.2.1.2.1, sL s u.2.2.2.2.1.2.2.length n, sL r u.2.2.2.2.2.length p] 98)) (box_below _ (.cells #[nI 0, nI 0, sL none 0 0] 74));have f : Hid _ := hb;have U := hb.size;clear h hok hb;go_enter Tryz.func54, Tryz.ntmps54;go_upto_region 1 with fail
 generalize (W.alloc (.cells #[sL j u.1.1.length l, sL i u.1.2.length d, sL A u.2.1.length z, nI u.2.2.1, nI u.2.2.2.1, nI u.2.2.2.2.1.1, nI u.2.2.2.2.1.2.1, sL s u.2.2.2.2.1.2.2.length n, sL r u.2.2.2.2.2.length p] 98)).alloc (.cells #[nI 0, nI 0, sL none 0 0] 74) = W0 at X Y B ⊢;obtain ⟨H, I, L, N, S, Z, O, M, x8⟩ := cells_core X;go_wp2_with fail
 clear H I L N S Z O M x8 X;refine (G.out _ (below_step f.out B)).mono ?_;rintro e F ⟨C, rfl, c, q⟩;clear G;have m := c F (below_step (below_step f.out B) q);obtain ⟨a, b, rfl, -, -, -, -, -⟩ := way_rd m;rw [aE];have yl := (ltH Y);replace Y := row_keep q Y;replace B := below_step B q;obtain ⟨y0, y1, y2⟩ := cells_three Y;obtain ⟨f0, f1, f2⟩ := froz_way Y;have E : Hid _ := aI Y (aI B c);clear Y B m q c;generalize D : wayOf u.1 k = y at E ⊢;go_wp2;obtain ⟨Y, B, c⟩ := E.out;have V := row_setCs (g := W.heap.size + 1) [nI y.1, nI y.2.1, sL a y.2.2.length b] 0 Y;obtain ⟨J, K, R⟩ := cells_three (show (((F.setCell ⟨W.heap.size + 1, 0, none⟩ (nI y.1)).setCell ⟨W.heap.size + 1, 1, none⟩ (nI y.2.1)).setCell ⟨W.heap.size + 1, 2, none⟩ (sL a y.2.2.length b)).heap[W.heap.size + 1]? = some (.cells #[nI y.1, nI y.2.1, sL a y.2.2.length b] 74 (0, 0)) from V);have T := below_setCs0 (g := W.heap.size + 1) (o := 0) (vs := [nI y.1, nI y.2.1, sL a y.2.2.length b]) B (by omega);refine bodyPost_ret (v := .agg #[nI y.1, nI y.2.1, sL a y.2.2.length b]) (by simp [results, Tryz.results54, go_sem, J, K, R]) rfl ⟨[nI y.1, nI y.2.1, sL a y.2.2.length b], rfl, fun W' hb' => by rw [D]; exact c W' hb', T⟩
theorem event_shape1 {w : World} {cs : List Value} {u : EventD} (h : eventR.rd w cs u) : ∃ (ea : Option Addr) (ec : Nat), cs = [nI u.1, nI u.2.1.1, nI u.2.1.2.1, nI u.2.1.2.2.1, nI u.2.1.2.2.2, nI u.2.2.1, nI u.2.2.2.1, sL ea u.2.2.2.2.1.length ec, nI u.2.2.2.2.2] ∧ u.2.2.2.2.1.length ≤ ec ∧ ec ≤ maxLen ∧ SlRd intR w ea u.2.2.2.2.1 := by
 obtain ⟨v1, v2, v3, v4, v7, rfl, -, f, -, -, ⟨a, c, e, g, d, q⟩, -⟩ := event_rd h;obtain ⟨b, -⟩ := op_rd4 f;simp only [List.cons.injEq, and_true] at b e;obtain ⟨rfl, rfl, rfl, rfl⟩ := b;obtain rfl := e;exact ⟨a, c, rfl, g, d, q⟩
theorem event_shape0 {w : World} {cs : List Value} {u : EventD} (h : eventR.rd w cs u) : ∃ (ea : Option Addr) (ec : Nat), cs = [nI u.1, nI u.2.1.1, nI u.2.1.2.1, nI u.2.1.2.2.1, nI u.2.1.2.2.2, nI u.2.2.1, nI u.2.2.2.1, sL ea u.2.2.2.2.1.length ec, nI u.2.2.2.2.2] := by
 obtain ⟨a, c, e, -⟩ := event_shape1 h;exact ⟨a, c, e⟩
theorem idxFnEvent {p : EventD → Bool} {g : Nat} (a : Option Addr) (xs : List EventD) (cap : Nat) (w : World) (h : SlRd eventR w a xs) (hm : xs.length ≤ maxLen) (HP : ∀ (x : EventD) (q : List Value) (W : World), x ∈ xs → Below w.heap.size w W → eventR.rd W q x → Calls Tryz.prog 214 #[aggV q, .pointer (some ⟨g, 0, none⟩)] W fun e w' => e = .returned (.bool (!p x)) ∧ Below W.heap.size W w') :
    Calls Tryz.prog 246 #[sL a xs.length cap, .func (.func 214) #[] #[.pointer (some ⟨g, 0, none⟩)]] w fun e w' => e = .returned (nI (badP p xs)) ∧ Below w.heap.size w w' := by
 have R : xs.length ≤ 9223372036854775807 := hm;have T : Hid (∀ W, Below w.heap.size w W → SlRd eventR W a xs) := fun W m => slrd_keep h fun k E => m.block k E;have y : Hid _ := HP;clear h hm HP;go_enter Tryz.func246, Tryz.ntmps246;go_wp2;go_loopw [8] (fun i wr => ∃ k : Nat, k ≤ xs.length ∧ i = nI k ∧ (∀ j v, j < k → xs[j]? = some v → p v = true) ∧ Below w.heap.size w wr) (fun i _ => xs.length - (intOf i).toNat)
 case atStart => exact ⟨0, Nat.zero_le _, rfl, fun j v hj => by omega, Below.refl _ _⟩
 case round =>
  obtain ⟨k, E, rfl, l, f⟩ := hrel;by_cases z : k < xs.length
  ·have G : (k : Int) < (xs.length : Int) := by omega
   obtain ⟨x, r⟩ : ∃ x, xs[k]? = some x := ⟨_, List.getElem?_eq_getElem z⟩;obtain ⟨b, U, q, rfl, d, c⟩ := slrd_at (T.out _ f) r;have o := y.out x q wr (List.mem_of_getElem? r) f d;obtain ⟨I, L, rfl⟩ := event_shape0 d;rw [show aggV [nI x.1, nI x.2.1.1, nI x.2.1.2.1, nI x.2.1.2.2.1, nI x.2.1.2.2.2, nI x.2.2.1, nI x.2.2.2.1, sL I x.2.2.2.2.1.length L, nI x.2.2.2.2.2] = .agg #[nI x.1, nI x.2.1.1, nI x.2.1.2.1, nI x.2.1.2.2.1, nI x.2.1.2.2.2, nI x.2.2.1, nI x.2.2.2.1, sL I x.2.2.2.2.1.length L, nI x.2.2.2.2.2] from rfl] at o;obtain ⟨A, B, C, F, K, M, H, D, N⟩ := cellsAt9 c rfl;have J : Hid (xs[k]? = some x) := r;clear r c d;cases m : p x
   ·have s : Hid (badP p xs = k) := badP_at J.out m l;rw [m] at o;go_wp2_with fail
    refine o.mono ?_;rintro e S ⟨rfl, n⟩;replace f := below_step f n;clear n A B C F K M H D N;go_wp2;go_ret
    exact ⟨ret_int s.out.symm, f⟩
   ·rw [m] at o;go_wp2_with fail
    refine o.mono ?_;rintro e S ⟨rfl, n⟩;replace f := below_step f n;clear n A B C F K M H D N;go_wp2;go_roundw
    case rel =>
     refine ⟨k + 1, by omega, by go_num, fun j v hj hv => ?_, f⟩;by_cases O : j < k
     ·exact l j v O hv
     ·have : j = k := by omega
      subst this;rw [J.out] at hv;cases hv;exact m
    case measure => simp [intOf]; omega
  ·have s : Hid (badP p xs = -1) := badP_no fun j v hv => l j v (by have := (List.getElem?_eq_some_iff.1 hv).1; omega) hv;go_wp2;go_ret
   exact ⟨ret_int s.out.symm, f⟩
theorem conFnEvent {p : EventD → Bool} {g : Nat} (a : Option Addr) (xs : List EventD) (cap : Nat) (w : World) (h : SlRd eventR w a xs) (hm : xs.length ≤ maxLen) (HP : ∀ (x : EventD) (cs : List Value) (W : World), x ∈ xs → Below w.heap.size w W → eventR.rd W cs x → Calls Tryz.prog 214 #[aggV cs, .pointer (some ⟨g, 0, none⟩)] W fun e w' => e = .returned (.bool (!p x)) ∧ Below W.heap.size W w') :
    Calls Tryz.prog 213 #[sL a xs.length cap, .func (.func 214) #[] #[.pointer (some ⟨g, 0, none⟩)]] w fun e w' => e = .returned (.bool (!xs.all p)) ∧ Below w.heap.size w w' := by
 have d := idxFnEvent a xs cap w h hm HP;have b := badP_all p xs;clear h hm HP;generalize badP p xs = q at d b;generalize xs.all p = y at b ⊢;subst b;by_cases i : q < 0
 ·have c : ¬ (0 ≤ q) := by omega
  go_enter Tryz.func213, Tryz.ntmps213;go_wp2_with fail
  refine d.mono ?_;rintro e j ⟨rfl, f⟩;go_wp2;go_ret
  exact ⟨by simp [i], f⟩
 ·have c : 0 ≤ q := by omega
  go_enter Tryz.func213, Tryz.ntmps213;go_wp2_with fail
  refine d.mono ?_;rintro e j ⟨rfl, f⟩;go_wp2;go_ret
  exact ⟨by simp [i], f⟩
theorem closFitEvent {q : Bool} {g : Nat} (x : EventD) (cs : List Value) (w : World) (h : eventR.rd w cs x) (hg : w.heap[g]? = some (.cells #[.func (.func 155) #[] #[]] 132 (0, 0)))
    (HF : ∀ W, Below w.heap.size w W → Calls Tryz.prog 155 #[aggV cs] W fun e w' => e = .returned (.bool q) ∧ Below W.heap.size W w') :
    Calls Tryz.prog 214 #[aggV cs, .pointer (some ⟨g, 0, none⟩)] w fun e w' => e = .returned (.bool (!q)) ∧ Below w.heap.size w w' := by
 obtain ⟨a, b, rfl⟩ := event_shape0 h;rw [show aggV [nI x.1, nI x.2.1.1, nI x.2.1.2.1, nI x.2.1.2.2.1, nI x.2.1.2.2.2, nI x.2.2.1, nI x.2.2.2.1, sL a x.2.2.2.2.1.length b, nI x.2.2.2.2.2] = .agg #[nI x.1, nI x.2.1.1, nI x.2.1.2.1, nI x.2.1.2.2.1, nI x.2.1.2.2.2, nI x.2.2.1, nI x.2.2.2.1, sL a x.2.2.2.2.1.length b, nI x.2.2.2.2.2] from rfl] at HF ⊢;have B := box_below w (.cells #[nI x.1, nI x.2.1.1, nI x.2.1.2.1, nI x.2.1.2.2.1, nI x.2.1.2.2.2, nI x.2.2.1, nI x.2.2.2.1, sL a x.2.2.2.2.1.length b, nI x.2.2.2.2.2] 135);have G := row_keep B hg;have c : Hid _ := HF;clear h hg HF;go_enter Tryz.func214, Tryz.ntmps214;go_upto_region 1 with fail
 have X := heap_at w (.cells #[nI x.1, nI x.2.1.1, nI x.2.1.2.1, nI x.2.1.2.2.1, nI x.2.1.2.2.2, nI x.2.2.1, nI x.2.2.2.1, sL a x.2.2.2.2.1.length b, nI x.2.2.2.2.2] 135);generalize w.alloc (.cells #[nI x.1, nI x.2.1.1, nI x.2.1.2.1, nI x.2.1.2.2.1, nI x.2.1.2.2.2, nI x.2.2.1, nI x.2.2.2.1, sL a x.2.2.2.2.1.length b, nI x.2.2.2.2.2] 135) = W0 at B G X ⊢;have n : W0.cell? ⟨g, 0, none⟩ = some (.func (.func 155) #[] #[]) := by rw [cell_of_row W0 g 0 _ _ (0, 0) G]; rfl
 obtain ⟨m, i, o, f, p, l, r, j, k⟩ := cells_core X;clear G X;go_wp2_with fail
 refine (c.out _ B).mono ?_;rintro e w1 ⟨rfl, d⟩;replace B := below_step B d;clear n d m i o f p l r j k;go_wp2;go_ret
 exact ⟨rfl, B⟩
theorem allFitEvent {p : EventD → Bool} (a : Option Addr) (xs : List EventD) (cap : Nat) (w : World) (h : SlRd eventR w a xs) (hm : xs.length ≤ maxLen)
    (HF : ∀ (x : EventD) (cs : List Value) (W : World), x ∈ xs → Below w.heap.size w W → eventR.rd W cs x → Calls Tryz.prog 155 #[aggV cs] W fun e w' => e = .returned (.bool (p x)) ∧ Below W.heap.size W w') :
    Calls Tryz.prog 154 #[sL a xs.length cap, .func (.func 155) #[] #[]] w fun e w' => e = .returned (.bool (xs.all p)) ∧ Below w.heap.size w w' := by
 have B := box_below w (.cells #[.func (.func 155) #[] #[]] 132);have G := heap_at w (.cells #[.func (.func 155) #[] #[]] 132);have c := conFnEvent (p := p) (g := w.heap.size) a xs cap (w.alloc (.cells #[.func (.func 155) #[] #[]] 132)) (slrd_next h B) hm (fun x cs W hx hb hr => closFitEvent x cs W hr (row_keep hb G) (fun W2 hb2 => HF x cs W2 hx (below_step (below_step B hb) hb2) (rd_next hr hb2)));clear h hm HF G;generalize xs.all p = y at c ⊢;go_enter Tryz.func154, Tryz.ntmps154;go_wp2_with fail
 refine c.mono ?_;rintro e w1 ⟨rfl, b⟩;replace B := below_step B b;clear b;go_wp2;go_ret
 exact ⟨by simp, B⟩
end Go.Proofs.YtdamokokcdcedaaGreatDoor
