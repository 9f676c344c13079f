import Derived.Test.YtcocbafhcpdheaaGreatDoorP00Box
import Derived.Test.YtcocbafhcpdheaaGreatDoorP41FabDefs
namespace Go.Proofs.YtcocbafhcpdheaaGreatDoor
set_option maxHeartbeats 4000000
set_option maxRecDepth 20000
open Go.ChangeShapes Go.WideShapes Go.ChangeAt Go.RowKit
set_option linter.unusedVariables false
set_option linter.unusedSimpArgs false
theorem way_nil {w W : World} {us : List Value} (h : wayR.rd w us emptyW) : wayR.rd W us emptyW := by
 obtain ⟨b, c, rfl, d, a, f, g, -⟩ := way_rd h;exact ⟨[_], [_, _], rfl, ⟨rfl, d⟩, [_], [_], rfl, ⟨rfl, a⟩, b, c, rfl, f, g, .inl rfl⟩
theorem core_cache {w : World} {u : CoreD} {v0 v1 v2 v3 v4 v5 v6 v7 v8 : Value} (h : coreR.rd w [v0, v1, v2, v3, v4, v5, v6, v7, v8] u) : cacheR.rd w [v0, v1] u.1 := by
 obtain ⟨z0, z1, z2, z5, z6, z7, z8, e, a, -⟩ := core_rd h;simp only [List.cons.injEq, and_true] at e;obtain ⟨rfl, rfl, -⟩ := e;exact a
theorem specWay_v (m : List Value) (c : CacheD) (k : Int) (w W : World) (hok : OkC isL treeB c) (h : cacheR.rd w m c) (hb : Below w.heap.size w W) :
    Calls Tryz.prog 103 #[aggV m, .int .i64 k] W fun e o => ∃ n, e = .returned (aggV n) ∧ (∀ W', Below w.heap.size w W' → wayR.rd W' n (wayOf c k)) ∧ Below W.heap.size W o := by
 cases f : atC c k with
 | none =>
  have q : wayOf c k = emptyW := by unfold wayOf; rw [f]
  refine (specWay_u m c k W hok (rd_next h hb)).mono ?_;rintro e o ⟨n, rfl, D, A⟩;refine ⟨n, rfl, fun W' _ => ?_, A⟩;rw [q] at D ⊢;exact way_nil D
 | some fi =>
  obtain ⟨a, v, b, I, rfl, l1, l2, m1, m2, B, h2⟩ := cache_rd h;obtain ⟨O, u, F, J⟩ := at_some f;have q : wayOf c k = u := by unfold wayOf; rw [f]; simp only; rw [List.getD_eq_getElem?_getD, F]; rfl
  rw [q];obtain ⟨hp, l, K, R, E, G⟩ := ok_row hok k;obtain ⟨H, L, aj, T, rfl, C, -, -, p⟩ := set_at B l;obtain ⟨N, j, m, rfl, g, d⟩ := slrd_at p F;have i := g;obtain ⟨M, y, rfl, i1, i2, -, -, S⟩ := way_rd g;have r := d 0 _ rfl;have z := d 1 _ rfl;have s := d 2 _ rfl;rw [show j + (fi * wayR.size + 0) = j + fi * 3 from rfl] at r;rw [show j + (fi * wayR.size + 1) = j + fi * 3 + 1 from rfl] at z;rw [show j + (fi * wayR.size + 2) = j + fi * 3 + 2 from rfl] at s;refine (l6Way_in b c v I H L N j T fi y M k u.1 u.2.1 u.2.2 W hok (slrd_next B hb) f (cell_keep hb C (cell_lt C)) (cell_keep hb r (cell_lt r)) (cell_keep hb z (cell_lt z)) (cell_keep hb s (cell_lt s))).mono ?_;rintro e o ⟨rfl, A⟩;exact ⟨_, rfl, fun W' hb' => rd_next i hb', A⟩
theorem l17Has_u (cs : List Value) (u : CoreD) (k : Int) (w W : World) (hok : OkC isL treeB u.1) (h : coreR.rd w cs u) (hb : Below w.heap.size w W) :
    Calls Tryz.prog 55 #[aggV cs, .int .i64 k] W fun e w' => ∃ D, e = .returned (aggV D) ∧ (∀ W', Below w.heap.size w W' → wayR.rd W' D (wayOf u.1 k)) ∧ Below W.heap.size W w' := by
 obtain ⟨f, i, c, l, q, s, z, n, r, p, rfl⟩ := core_shape h;have E : Hid _ := fun (V : World) (hv : Below w.heap.size w V) => specWay_v [.slice f u.1.1.length i, .slice c u.1.2.length l] u.1 k w V hok (core_cache h) hv;rw [show aggV _ = .agg _ from rfl];have X := heap_on (.cells #[.int .i64 0, .int .i64 0, .slice none 0 0] 88) (heap_at W (.cells #[.slice f u.1.1.length i, .slice c u.1.2.length l, .slice q u.2.1.length s, .int .i64 u.2.2.1, .int .i64 u.2.2.2.1, .int .i64 u.2.2.2.2.1.1, .int .i64 u.2.2.2.2.1.2.1, .slice z u.2.2.2.2.1.2.2.length n, .slice r u.2.2.2.2.2.length p] 95));have Y := heap_at (W.alloc (.cells #[.slice f u.1.1.length i, .slice c u.1.2.length l, .slice q u.2.1.length s, .int .i64 u.2.2.1, .int .i64 u.2.2.2.1, .int .i64 u.2.2.2.2.1.1, .int .i64 u.2.2.2.2.1.2.1, .slice z u.2.2.2.2.1.2.2.length n, .slice r u.2.2.2.2.2.length p] 95)) (.cells #[.int .i64 0, .int .i64 0, .slice none 0 0] 88);rw [alloc_len] at Y;have B := below_step (box_below W (.cells #[.slice f u.1.1.length i, .slice c u.1.2.length l, .slice q u.2.1.length s, .int .i64 u.2.2.1, .int .i64 u.2.2.2.1, .int .i64 u.2.2.2.2.1.1, .int .i64 u.2.2.2.2.1.2.1, .slice z u.2.2.2.2.1.2.2.length n, .slice r u.2.2.2.2.2.length p] 95)) (box_below _ (.cells #[.int .i64 0, .int .i64 0, .slice none 0 0] 88));have m : Hid _ := hb;have O := hb.size;clear h hok hb;go_enter Tryz.func55, Tryz.ntmps55;go_upto_region 1 with fail
 generalize (W.alloc (.cells #[.slice f u.1.1.length i, .slice c u.1.2.length l, .slice q u.2.1.length s, .int .i64 u.2.2.1, .int .i64 u.2.2.2.1, .int .i64 u.2.2.2.2.1.1, .int .i64 u.2.2.2.2.1.2.1, .slice z u.2.2.2.2.1.2.2.length n, .slice r u.2.2.2.2.2.length p] 95)).alloc (.cells #[.int .i64 0, .int .i64 0, .slice none 0 0] 88) = W0 at X Y B ⊢;obtain ⟨M, J, x2, T, N, U, R, S, K⟩ := cells_core X;go_wp2_with fail
 clear M J x2 T N U R S K X;refine (E.out _ (below_step m.out B)).mono ?_;rintro e F ⟨D, rfl, j, A⟩;clear E;have d := j F (below_step (below_step m.out B) A);obtain ⟨b, a, rfl, -, -, -, -, -⟩ := way_rd d;rw [show aggV _ = .agg _ from rfl];have yl := (ltH Y);replace Y := row_keep A Y;replace B := below_step B A;obtain ⟨y0, y1, y2⟩ := cells_three Y;obtain ⟨f0, f1, f2⟩ := froz_way Y;have G : Hid _ := And.intro Y (And.intro B j);clear Y B d A j;generalize C : wayOf u.1 k = y at G ⊢;go_wp2;obtain ⟨Y, B, j⟩ := G.out;have V := row_setCs (g := W.heap.size + 1) [.int .i64 y.1, .int .i64 y.2.1, .slice b y.2.2.length a] 0 Y;obtain ⟨Z, I, L⟩ := cells_three (show (((F.setCell ⟨W.heap.size + 1, 0, none⟩ (.int .i64 y.1)).setCell ⟨W.heap.size + 1, 1, none⟩ (.int .i64 y.2.1)).setCell ⟨W.heap.size + 1, 2, none⟩ (.slice b y.2.2.length a)).heap[W.heap.size + 1]? = some (.cells #[.int .i64 y.1, .int .i64 y.2.1, .slice b y.2.2.length a] 88 (0, 0)) from V);have H := below_setCs0 (g := W.heap.size + 1) (o := 0) (vs := [.int .i64 y.1, .int .i64 y.2.1, .slice b y.2.2.length a]) B (by omega);refine bodyPost_ret (v := .agg #[.int .i64 y.1, .int .i64 y.2.1, .slice b y.2.2.length a]) (by simp [results, Tryz.results55, go_sem, Z, I, L]) rfl ⟨[.int .i64 y.1, .int .i64 y.2.1, .slice b y.2.2.length a], rfl, fun W' hb' => by rw [C]; exact j W' hb', H⟩
theorem way_findI {c : CacheD} (h : OkC isL treeB c) (k : Int) : (findI c k).1 = wayOf c k := by
 unfold findI findC wayOf;rw [if_pos (okB_iff.2 h)];cases atC c k <;> rfl
theorem own_u (cs : List Value) (u : CoreD) (k : Int) (w : World) (hok : OkC isL treeB u.1) (h : coreR.rd w cs u) :
    Calls Tryz.prog 77 #[aggV cs, .int .i64 k] w fun e w' => ∃ f, e = .returned (aggV f) ∧ MadeR wayR w w' f (wayOf u.1 k) := by
 obtain ⟨c, d, b, i, o, q, r, m, p, n, rfl⟩ := core_shape h;have A : Hid (∀ V, Below w.heap.size w V → Calls Tryz.prog 132 #[.agg #[.slice c u.1.1.length d, .slice b u.1.2.length i], .int .i64 k] V fun e w' => ∃ f, e = .returned (.tuple #[aggV f, .int .i64 (findI u.1 k).2]) ∧ MadeR wayR V w' f (wayOf u.1 k)) := fun V hv => by rw [← way_findI hok k]; exact implFindW_u [.slice c u.1.1.length d, .slice b u.1.2.length i] u.1 k V (rd_next (core_cache h) hv)
 rw [show aggV _ = .agg _ from rfl];have X := heap_on (.cells #[.int .i64 0, .int .i64 0, .slice none 0 0] 88) (heap_at w (.cells #[.slice c u.1.1.length d, .slice b u.1.2.length i, .slice o u.2.1.length q, .int .i64 u.2.2.1, .int .i64 u.2.2.2.1, .int .i64 u.2.2.2.2.1.1, .int .i64 u.2.2.2.2.1.2.1, .slice r u.2.2.2.2.1.2.2.length m, .slice p u.2.2.2.2.2.length n] 95));have Y := heap_at (w.alloc (.cells #[.slice c u.1.1.length d, .slice b u.1.2.length i, .slice o u.2.1.length q, .int .i64 u.2.2.1, .int .i64 u.2.2.2.1, .int .i64 u.2.2.2.2.1.1, .int .i64 u.2.2.2.2.1.2.1, .slice r u.2.2.2.2.1.2.2.length m, .slice p u.2.2.2.2.2.length n] 95)) (.cells #[.int .i64 0, .int .i64 0, .slice none 0 0] 88);rw [alloc_len] at Y;have B := below_step (box_below w (.cells #[.slice c u.1.1.length d, .slice b u.1.2.length i, .slice o u.2.1.length q, .int .i64 u.2.2.1, .int .i64 u.2.2.2.1, .int .i64 u.2.2.2.2.1.1, .int .i64 u.2.2.2.2.1.2.1, .slice r u.2.2.2.2.1.2.2.length m, .slice p u.2.2.2.2.2.length n] 95)) (box_below _ (.cells #[.int .i64 0, .int .i64 0, .slice none 0 0] 88));clear h hok;go_enter Tryz.func77, Tryz.ntmps77;go_upto_region 1 with fail
 generalize (w.alloc (.cells #[.slice c u.1.1.length d, .slice b u.1.2.length i, .slice o u.2.1.length q, .int .i64 u.2.2.1, .int .i64 u.2.2.2.1, .int .i64 u.2.2.2.2.1.1, .int .i64 u.2.2.2.2.1.2.1, .slice r u.2.2.2.2.1.2.2.length m, .slice p u.2.2.2.2.2.length n] 95)).alloc (.cells #[.int .i64 0, .int .i64 0, .slice none 0 0] 88) = W0 at X Y B ⊢;obtain ⟨H, D, T, N, I, O, J, K, F⟩ := cells_core X;go_wp2_with fail
 clear H D T N I O J K F X;refine (A.out _ B).mono ?_;rintro e L ⟨f, rfl, M⟩;clear A;obtain ⟨j, l, rfl, -, -, -, -, -⟩ := way_rd (wayR.own_rd M.1);rw [show aggV _ = .agg _ from rfl];have E := (ltH Y);replace Y := row_keep M.2 Y;generalize s : wayOf u.1 k = y at M ⊢;go_upto_region 2 with fail
 generalize a : L.alloc _ = w2;have Z := boxH a;have z := boxB a;clear a;replace Y := row_keep z Y;replace M := made_on M z;obtain ⟨z0, z1, z2⟩ := cells_three Z;obtain ⟨y0, y1, y2⟩ := cells_three Y;obtain ⟨f0, f1, f2⟩ := froz_way Y;have S : Hid _ := And.intro Y (And.intro B M);clear Y B M Z z;go_wp2;obtain ⟨Y, B, M⟩ := S.out;have V := row_setCs (g := w.heap.size + 1) [.int .i64 y.1, .int .i64 y.2.1, .slice j y.2.2.length l] 0 Y;obtain ⟨R, C, G⟩ := cells_three (show (((w2.setCell ⟨w.heap.size + 1, 0, none⟩ (.int .i64 y.1)).setCell ⟨w.heap.size + 1, 1, none⟩ (.int .i64 y.2.1)).setCell ⟨w.heap.size + 1, 2, none⟩ (.slice j y.2.2.length l)).heap[w.heap.size + 1]? = some (.cells #[.int .i64 y.1, .int .i64 y.2.1, .slice j y.2.2.length l] 88 (0, 0)) from V);refine bodyPost_ret (v := .agg #[.int .i64 y.1, .int .i64 y.2.1, .slice j y.2.2.length l]) (by simp [results, Tryz.results77, go_sem, R, C, G]) rfl ⟨[.int .i64 y.1, .int .i64 y.2.1, .slice j y.2.2.length l], rfl, by rw [s]; exact fin_made B M E (by omega)⟩
theorem event_shape1 {w : World} {cs : List Value} {u : EventD} (h : eventR.rd w cs u) : ∃ (ea : Option Addr) (ec : Nat), cs = [.int .i64 u.1, .int .i64 u.2.1.1, .int .i64 u.2.1.2.1, .int .i64 u.2.1.2.2.1, .int .i64 u.2.1.2.2.2, .int .i64 u.2.2.1, .int .i64 u.2.2.2.1, .slice ea u.2.2.2.2.1.length ec, .int .i64 u.2.2.2.2.2] ∧ u.2.2.2.2.1.length ≤ ec ∧ ec ≤ maxLen ∧ SlRd intR w ea u.2.2.2.2.1 := by
 obtain ⟨v1, v2, v3, v4, v7, rfl, -, d, -, -, ⟨a, c, e, f, g, q⟩, -⟩ := event_rd h;obtain ⟨b, -⟩ := op_rd4 d;simp only [List.cons.injEq, and_true] at b e;obtain ⟨rfl, rfl, rfl, rfl⟩ := b;obtain rfl := e;exact ⟨a, c, rfl, f, g, q⟩
theorem event_shape0 {w : World} {cs : List Value} {u : EventD} (h : eventR.rd w cs u) : ∃ (ea : Option Addr) (ec : Nat), cs = [.int .i64 u.1, .int .i64 u.2.1.1, .int .i64 u.2.1.2.1, .int .i64 u.2.1.2.2.1, .int .i64 u.2.1.2.2.2, .int .i64 u.2.2.1, .int .i64 u.2.2.2.1, .slice ea u.2.2.2.2.1.length ec, .int .i64 u.2.2.2.2.2] := by
 obtain ⟨a, c, e, -⟩ := event_shape1 h;exact ⟨a, c, e⟩
theorem idxFnEvent {p : EventD → Bool} {g : Nat} (a : Option Addr) (xs : List EventD) (cap : Nat) (w : World) (h : SlRd eventR w a xs) (hm : xs.length ≤ maxLen) (HP : ∀ (x : EventD) (q : List Value) (W : World), x ∈ xs → Below w.heap.size w W → eventR.rd W q x → Calls Tryz.prog 191 #[aggV q, .pointer (some ⟨g, 0, none⟩)] W fun e w' => e = .returned (.bool (!p x)) ∧ Below W.heap.size W w') :
    Calls Tryz.prog 230 #[.slice a xs.length cap, .func (.func 191) #[] #[.pointer (some ⟨g, 0, none⟩)]] w fun e w' => e = .returned (.int .i64 (badP p xs)) ∧ Below w.heap.size w w' := by
 have O : xs.length ≤ 9223372036854775807 := hm;have M : Hid (∀ W, Below w.heap.size w W → SlRd eventR W a xs) := fun W m => slrd_keep h fun k K => m.block k K;have y : Hid _ := HP;clear h hm HP;go_enter Tryz.func230, Tryz.ntmps230;go_wp2;go_loopw [8] (fun i wr => ∃ k : Nat, k ≤ xs.length ∧ i = .int .i64 k ∧ (∀ j v, j < k → xs[j]? = some v → p v = true) ∧ Below w.heap.size w wr) (fun i _ => xs.length - (intOf i).toNat)
 case atStart => exact ⟨0, Nat.zero_le _, rfl, fun j v hj => by omega, Below.refl _ _⟩
 case round =>
  obtain ⟨k, K, rfl, l, f⟩ := hrel;by_cases z : k < xs.length
  ·have B : (k : Int) < (xs.length : Int) := by omega
   obtain ⟨x, r⟩ : ∃ x, xs[k]? = some x := ⟨_, List.getElem?_eq_getElem z⟩;obtain ⟨b, S, q, rfl, d, c⟩ := slrd_at (M.out _ f) r;have n := y.out x q wr (List.mem_of_getElem? r) f d;obtain ⟨ga, gc, rfl⟩ := event_shape0 d;rw [show aggV _ = .agg _ from rfl] at n;obtain ⟨D, A, L, I, E, J, G, H, C⟩ := cellsAt9 c rfl;have F : Hid (xs[k]? = some x) := r;clear r c d;cases m : p x
   ·have s : Hid (badP p xs = k) := badP_at F.out m l;rw [m] at n;go_wp2_with fail
    refine n.mono ?_;rintro e R ⟨rfl, o⟩;replace f := below_step f o;clear o D A L I E J G H C;go_wp2;go_ret
    exact ⟨ret_int s.out.symm, f⟩
   ·rw [m] at n;go_wp2_with fail
    refine n.mono ?_;rintro e R ⟨rfl, o⟩;replace f := below_step f o;clear o D A L I E J G H C;go_wp2;go_roundw
    case rel =>
     refine ⟨k + 1, by omega, by go_num, fun j v hj hv => ?_, f⟩;by_cases N : j < k
     ·exact l j v N hv
     ·have : j = k := by omega
      subst this;rw [F.out] at hv;cases hv;exact m
    case measure => simp [intOf]; omega
  ·have s : Hid (badP p xs = -1) := badP_no fun j v hv => l j v (by have := (List.getElem?_eq_some_iff.1 hv).1; omega) hv;go_wp2;go_ret
   exact ⟨ret_int s.out.symm, f⟩
theorem conFnEvent {p : EventD → Bool} {g : Nat} (a : Option Addr) (xs : List EventD) (cap : Nat) (w : World) (h : SlRd eventR w a xs) (hm : xs.length ≤ maxLen) (HP : ∀ (x : EventD) (cs : List Value) (W : World), x ∈ xs → Below w.heap.size w W → eventR.rd W cs x → Calls Tryz.prog 191 #[aggV cs, .pointer (some ⟨g, 0, none⟩)] W fun e w' => e = .returned (.bool (!p x)) ∧ Below W.heap.size W w') :
    Calls Tryz.prog 190 #[.slice a xs.length cap, .func (.func 191) #[] #[.pointer (some ⟨g, 0, none⟩)]] w fun e w' => e = .returned (.bool (!xs.all p)) ∧ Below w.heap.size w w' := by
 have d := idxFnEvent a xs cap w h hm HP;have b := badP_all p xs;clear h hm HP;generalize badP p xs = q at d b;generalize xs.all p = y at b ⊢;subst b;by_cases i : q < 0
 ·have c : ¬ (0 ≤ q) := by omega
  go_enter Tryz.func190, Tryz.ntmps190;go_wp2_with fail
  refine d.mono ?_;rintro e j ⟨rfl, f⟩;go_wp2;go_ret
  exact ⟨by simp [i], f⟩
 ·have c : 0 ≤ q := by omega
  go_enter Tryz.func190, Tryz.ntmps190;go_wp2_with fail
  refine d.mono ?_;rintro e j ⟨rfl, f⟩;go_wp2;go_ret
  exact ⟨by simp [i], f⟩
theorem closFitEvent {q : Bool} {g : Nat} (x : EventD) (cs : List Value) (w : World) (h : eventR.rd w cs x) (hg : w.heap[g]? = some (.cells #[.func (.func 131) #[] #[]] 149 (0, 0)))
    (HF : ∀ W, Below w.heap.size w W → Calls Tryz.prog 131 #[aggV cs] W fun e w' => e = .returned (.bool q) ∧ Below W.heap.size W w') :
    Calls Tryz.prog 191 #[aggV cs, .pointer (some ⟨g, 0, none⟩)] w fun e w' => e = .returned (.bool (!q)) ∧ Below w.heap.size w w' := by
 obtain ⟨o, p, rfl⟩ := event_shape0 h;rw [show aggV _ = .agg _ from rfl] at HF ⊢;have B := box_below w (.cells #[.int .i64 x.1, .int .i64 x.2.1.1, .int .i64 x.2.1.2.1, .int .i64 x.2.1.2.2.1, .int .i64 x.2.1.2.2.2, .int .i64 x.2.2.1, .int .i64 x.2.2.2.1, .slice o x.2.2.2.2.1.length p, .int .i64 x.2.2.2.2.2] 123);have G := row_keep B hg;have b : Hid _ := HF;clear h hg HF;go_enter Tryz.func191, Tryz.ntmps191;go_upto_region 1 with fail
 generalize a : w.alloc _ = W0;have X := boxH a;clear a;have n : W0.cell? ⟨g, 0, none⟩ = some (.func (.func 131) #[] #[]) := by rw [cell_of_row W0 g 0 _ _ (0, 0) G]; rfl
 obtain ⟨m, r, j, i, k, d, s, f, l⟩ := cells_core X;clear G X;go_wp2_with fail
 refine (b.out _ B).mono ?_;rintro e w1 ⟨rfl, c⟩;replace B := below_step B c;clear n c m r j i k d s f l;go_wp2;go_ret
 exact ⟨rfl, B⟩
theorem allFitEvent {p : EventD → Bool} (a : Option Addr) (xs : List EventD) (cap : Nat) (w : World) (h : SlRd eventR w a xs) (hm : xs.length ≤ maxLen)
    (HF : ∀ (x : EventD) (cs : List Value) (W : World), x ∈ xs → Below w.heap.size w W → eventR.rd W cs x → Calls Tryz.prog 131 #[aggV cs] W fun e w' => e = .returned (.bool (p x)) ∧ Below W.heap.size W w') :
    Calls Tryz.prog 130 #[.slice a xs.length cap, .func (.func 131) #[] #[]] w fun e w' => e = .returned (.bool (xs.all p)) ∧ Below w.heap.size w w' := by
 have B := box_below w (.cells #[.func (.func 131) #[] #[]] 149);have G := heap_at w (.cells #[.func (.func 131) #[] #[]] 149);have b := conFnEvent (p := p) (g := w.heap.size) a xs cap (w.alloc (.cells #[.func (.func 131) #[] #[]] 149)) (slrd_next h B) hm (fun x cs W hx hb hr => closFitEvent x cs W hr (row_keep hb G) (fun W2 hb2 => HF x cs W2 hx (below_step (below_step B hb) hb2) (rd_next hr hb2)));clear h hm HF G;generalize xs.all p = y at b ⊢;go_enter Tryz.func130, Tryz.ntmps130;go_wp2_with fail
 refine b.mono ?_;rintro e w1 ⟨rfl, c⟩;replace B := below_step B c;clear c;go_wp2;go_ret
 exact ⟨by simp, B⟩
end Go.Proofs.YtcocbafhcpdheaaGreatDoor
