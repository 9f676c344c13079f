import Derived.Test.YtdamokokcdcedaaGreatDoorE00Box
import Derived.Test.YtdamokokcdcedaaGreatDoorE39
namespace Go.Proofs.YtdamokokcdcedaaGreatDoor
set_option maxHeartbeats 4000000
set_option maxRecDepth 20000
open Go.ChangeShapes Go.WideShapes Go.ChangeAt Go.RowKit
set_option linter.unusedVariables false
theorem froz_way {w : World} {g : Nat} {cs : Array Value} {t : TypeId} (h : w.heap[g]? = some (.cells cs t (0, 0))) : w.frozen? ⟨g, 0, none⟩ = false ∧ w.frozen? ⟨g, 1, none⟩ = false ∧ w.frozen? ⟨g, 2, none⟩ = false :=
 ⟨frozen_of_row w g 0 _ _ h, frozen_of_row w g 1 _ _ h, frozen_of_row w g 2 _ _ h⟩
theorem specWay_u (A : List Value) (c : CacheD) (k : Int) (w : World) (hok : OkC isL treeB c) (h : cacheR.rd w A c) :
    Calls Tryz.prog 108 #[aggV A, nI k] w fun e G => ∃ us, e = .returned (aggV us) ∧ wayR.rd G us (wayOf c k) ∧ Bl w G := by
 have m : Hid _ := fun (W : World) (hb : Bl w W) => specAt_u A c k W hok (rd_next h hb);obtain ⟨a, i, b, y, rfl, l1, l2, m1, m2, F, h2⟩ := cache_rd h;cases f : atC c k with
 | none =>
  rw [f] at m;have E : wayOf c k = emptyW := by unfold wayOf; rw [f]
  rw [E];clear h F h2 hok f E;rw [aE] at m ⊢;have X := heap_on (.cells #[nI 0, nI 0, sL none 0 0] 74) (heap_at w (.cells #[sL a c.1.length i, sL b c.2.length y] 95));have Y := heap_at (w.alloc (.cells #[sL a c.1.length i, sL b c.2.length y] 95)) (.cells #[nI 0, nI 0, sL none 0 0] 74);rw [alloc_len] at Y;have B := below_step (box_below w (.cells #[sL a c.1.length i, sL b c.2.length y] 95)) (box_below _ (.cells #[nI 0, nI 0, sL none 0 0] 74));go_enter Tryz.func108, Tryz.ntmps108;go_wp2_with fail
  generalize (w.alloc (.cells #[sL a c.1.length i, sL b c.2.length y] 95)).alloc (.cells #[nI 0, nI 0, sL none 0 0] 74) = W0 at X Y B ⊢;refine (m.out _ B).mono ?_;rintro e w1 ⟨rfl, r⟩;replace X := row_keep r X;replace Y := row_keep r Y;replace B := below_step B r;clear r X m;rw [show idxI (none : Option Nat) = -1 from rfl];go_wp2_with fail
  refine (l6Empty_u _).mono ?_;rintro e T ⟨ds, rfl, D⟩;have H := D.2;obtain ⟨l, j, rfl, -, -, -, -, hq⟩ := way_rd (wayR.own_rd D.1);rw [show aggV [nI emptyW.1, nI emptyW.2.1, sL l emptyW.2.2.length j] = .agg #[nI (-1), nI 0, sL l 0 j] from rfl];have C := owned_made (R := wayR) D;have yl := (ltH Y);replace Y := row_keep H Y;replace B := below_step B H;obtain ⟨y0, y1, y2⟩ := cells_three Y;obtain ⟨f0, f1, f2⟩ := froz_way Y;have HZ : Hid _ := aI Y (aI B C);clear Y B C D H hq;go_wp2;obtain ⟨Y, B, C⟩ := HZ.out;have V := row_setCs (g := w.heap.size + 1) [nI (-1), nI 0, sL l 0 j] 0 Y;obtain ⟨U, Z, r2⟩ := cells_three (show (((T.setCell ⟨w.heap.size + 1, 0, none⟩ (nI (-1))).setCell ⟨w.heap.size + 1, 1, none⟩ (nI 0)).setCell ⟨w.heap.size + 1, 2, none⟩ (sL l 0 j)).heap[w.heap.size + 1]? = some (.cells #[nI (-1), nI 0, sL l 0 j] 74 (0, 0)) from V);refine bodyPost_ret (v := .agg #[nI (-1), nI 0, sL l 0 j]) (by simp [results, Tryz.results108, go_sem, U, Z, r2]) rfl ⟨[nI (-1), nI 0, sL l 0 j], rfl, ?_, below_setCs0 (g := w.heap.size + 1) (o := 0) (vs := [nI (-1), nI 0, sL l 0 j]) B (by omega)⟩;exact wayR.own_rd (own_setCs (g := w.heap.size + 1) (o := 0) (vs := [nI (-1), nI 0, sL l 0 j]) C.1 (fun q => by have := q.1; omega))
 | some fi =>
  obtain ⟨lA, u, M, aA⟩ := at_some f;have E : wayOf c k = u := by unfold wayOf; rw [f]; simp only; rw [List.getD_eq_getElem?_getD, M]; rfl
  rw [E];obtain ⟨hp, z, pA, mA, O, dA⟩ := ok_row hok k;obtain ⟨b0, S, aj, cj, rfl, k2, -, -, I⟩ := set_at F z;obtain ⟨bj, s, A, rfl, n, d⟩ := slrd_at I M;have p := n;obtain ⟨ad, J, rfl, i1, i2, -, -, cA⟩ := way_rd n;have L := d 0 _ rfl;have K := d 1 _ rfl;have N := d 2 _ rfl;rw [show s + (fi * wayR.size + 0) = s + fi * 3 from rfl] at L;rw [show s + (fi * wayR.size + 1) = s + fi * 3 + 1 from rfl] at K;rw [show s + (fi * wayR.size + 2) = s + fi * 3 + 2 from rfl] at N;refine (l6Way_in b c i y b0 S bj s cj fi J ad k u.1 u.2.1 u.2.2 w hok F f k2 L K N).mono ?_;rintro e G ⟨rfl, r⟩;exact ⟨_, rfl, rd_next p r, r⟩
set_option linter.unusedSimpArgs false
theorem way_nil {w W : World} {us : List Value} (h : wayR.rd w us emptyW) : wayR.rd W us emptyW := by
 obtain ⟨a, c, rfl, d, f, g, b, -⟩ := way_rd h;exact ⟨[_], [_, _], rfl, ⟨rfl, d⟩, [_], [_], rfl, ⟨rfl, f⟩, a, c, rfl, g, b, .inl rfl⟩
theorem core_cache {w : World} {u : CoreD} {v0 v1 v2 v3 v4 v5 v6 v7 v8 : Value} (h : coreR.rd w [v0, v1, v2, v3, v4, v5, v6, v7, v8] u) : cacheR.rd w [v0, v1] u.1 := by
 obtain ⟨z0, z1, z2, z5, z6, z7, z8, e, a, -⟩ := core_rd h;simp only [List.cons.injEq, and_true] at e;obtain ⟨rfl, rfl, -⟩ := e;exact a
theorem specWay_v (m : List Value) (c : CacheD) (k : Int) (w W : World) (hok : OkC isL treeB c) (h : cacheR.rd w m c) (hb : Bl w W) :
    Calls Tryz.prog 108 #[aggV m, nI k] W fun e p => ∃ n, e = .returned (aggV n) ∧ (∀ W', Bl w W' → wayR.rd W' n (wayOf c k)) ∧ Bl W p := by
 cases f : atC c k with
 | none =>
  have v : wayOf c k = emptyW := by unfold wayOf; rw [f]
  refine (specWay_u m c k W hok (rd_next h hb)).mono ?_;rintro e p ⟨n, rfl, C, q⟩;refine ⟨n, rfl, fun W' _ => ?_, q⟩;rw [v] at C ⊢;exact way_nil C
 | some fi =>
  obtain ⟨a, r, b, K, rfl, l1, l2, m1, m2, B, h2⟩ := cache_rd h;obtain ⟨O, u, E, H⟩ := at_some f;have v : wayOf c k = u := by unfold wayOf; rw [f]; simp only; rw [List.getD_eq_getElem?_getD, E]; rfl
  rw [v];obtain ⟨hp, l, T, R, F, L⟩ := ok_row hok k;obtain ⟨M, G, aj, I, rfl, D, -, -, y⟩ := set_at B l;obtain ⟨N, j, m, rfl, g, d⟩ := slrd_at y E;have i := g;obtain ⟨S, z, rfl, i1, i2, -, -, J⟩ := way_rd g;have s := d 0 _ rfl;have o := d 1 _ rfl;have A := d 2 _ rfl;rw [show j + (fi * wayR.size + 0) = j + fi * 3 from rfl] at s;rw [show j + (fi * wayR.size + 1) = j + fi * 3 + 1 from rfl] at o;rw [show j + (fi * wayR.size + 2) = j + fi * 3 + 2 from rfl] at A;refine (l6Way_in b c r K M G N j I fi z S k u.1 u.2.1 u.2.2 W hok (slrd_next B hb) f (cell_keep hb D (cell_lt D)) (cell_keep hb s (cell_lt s)) (cell_keep hb o (cell_lt o)) (cell_keep hb A (cell_lt A))).mono ?_;rintro e p ⟨rfl, q⟩;exact ⟨_, rfl, fun W' hb' => rd_next i hb', q⟩
theorem l17Has_u (cs : List Value) (u : CoreD) (k : Int) (w W : World) (hok : OkC isL treeB u.1) (h : coreR.rd w cs u) (hb : Bl w W) :
    Calls Tryz.prog 54 #[aggV cs, nI k] W fun e w' => ∃ C, e = .returned (aggV C) ∧ (∀ W', Bl w W' → wayR.rd W' C (wayOf u.1 k)) ∧ Bl W w' := by
 obtain ⟨d, i, l, m, s, z, r, p, q, A, rfl⟩ := core_shape h;have G : Hid _ := fun (V : World) (hv : Bl w V) => specWay_v [sL d u.1.1.length i, sL l u.1.2.length m] u.1 k w V hok (core_cache h) hv;rw [aE];have X := heap_on (.cells #[nI 0, nI 0, sL none 0 0] 74) (heap_at W (.cells #[sL d u.1.1.length i, sL l u.1.2.length m, sL s u.2.1.length z, nI u.2.2.1, nI u.2.2.2.1, nI u.2.2.2.2.1.1, nI u.2.2.2.2.1.2.1, sL r u.2.2.2.2.1.2.2.length p, sL q u.2.2.2.2.2.length A] 98));have Y := heap_at (W.alloc (.cells #[sL d u.1.1.length i, sL l u.1.2.length m, sL s u.2.1.length z, nI u.2.2.1, nI u.2.2.2.1, nI u.2.2.2.2.1.1, nI u.2.2.2.2.1.2.1, sL r u.2.2.2.2.1.2.2.length p, sL q u.2.2.2.2.2.length A] 98)) (.cells #[nI 0, nI 0, sL none 0 0] 74);rw [alloc_len] at Y;have B := below_step (box_below W (.cells #[sL d u.1.1.length i, sL l u.1.2.length m, sL s u.2.1.length z, nI u.2.2.1, nI u.2.2.2.1, nI u.2.2.2.2.1.1, nI u.2.2.2.2.1.2.1, sL r u.2.2.2.2.1.2.2.length p, sL q u.2.2.2.2.2.length A] 98)) (box_below _ (.cells #[nI 0, nI 0, sL none 0 0] 74));have j : Hid _ := hb;have U := hb.size;clear h hok hb;go_enter Tryz.func54, Tryz.ntmps54;go_upto_region 1 with fail
 generalize (W.alloc (.cells #[sL d u.1.1.length i, sL l u.1.2.length m, sL s u.2.1.length z, nI u.2.2.1, nI u.2.2.2.1, nI u.2.2.2.2.1.1, nI u.2.2.2.2.1.2.1, sL r u.2.2.2.2.1.2.2.length p, sL q u.2.2.2.2.2.length A] 98)).alloc (.cells #[nI 0, nI 0, sL none 0 0] 74) = W0 at X Y B ⊢;obtain ⟨x0, R, Z, T, N, I, H, O, M⟩ := cells_core X;go_wp2_with fail
 clear x0 R Z T N I H O M X;refine (G.out _ (below_step j.out B)).mono ?_;rintro e F ⟨C, rfl, f, n⟩;clear G;have c := f F (below_step (below_step j.out B) n);obtain ⟨b, a, rfl, -, -, -, -, -⟩ := way_rd c;rw [aE];have yl := (ltH Y);replace Y := row_keep n Y;replace B := below_step B n;obtain ⟨y0, y1, y2⟩ := cells_three Y;obtain ⟨f0, f1, f2⟩ := froz_way Y;have E : Hid _ := aI Y (aI B f);clear Y B c n f;generalize D : wayOf u.1 k = y at E ⊢;go_wp2;obtain ⟨Y, B, f⟩ := E.out;have V := row_setCs (g := W.heap.size + 1) [nI y.1, nI y.2.1, sL b y.2.2.length a] 0 Y;obtain ⟨K, L, S⟩ := cells_three (show (((F.setCell ⟨W.heap.size + 1, 0, none⟩ (nI y.1)).setCell ⟨W.heap.size + 1, 1, none⟩ (nI y.2.1)).setCell ⟨W.heap.size + 1, 2, none⟩ (sL b y.2.2.length a)).heap[W.heap.size + 1]? = some (.cells #[nI y.1, nI y.2.1, sL b y.2.2.length a] 74 (0, 0)) from V);have J := below_setCs0 (g := W.heap.size + 1) (o := 0) (vs := [nI y.1, nI y.2.1, sL b y.2.2.length a]) B (by omega);refine bodyPost_ret (v := .agg #[nI y.1, nI y.2.1, sL b y.2.2.length a]) (by simp [results, Tryz.results54, go_sem, K, L, S]) rfl ⟨[nI y.1, nI y.2.1, sL b y.2.2.length a], rfl, fun W' hb' => by rw [D]; exact f W' hb', J⟩
theorem way_rng4 {c : CacheD} (h : OkC isL treeB c) (k : Int) : betw (wayOf c k).2.1 0 3 = true ∧ clearB (wayOf c k) = decide ((wayOf c k).2.1 = 0) := by
 cases b : atC c k with
 | none =>
  have g : wayOf c k = emptyW := by unfold wayOf; rw [b]
  rw [g];exact ⟨rfl, rfl⟩
 | some fi =>
  obtain ⟨j, u, i, l⟩ := at_some b;have g : wayOf c k = u := by unfold wayOf; rw [b]; simp only; rw [List.getD_eq_getElem?_getD, i]; rfl
  rw [g];obtain ⟨hp, f, -⟩ := ok_row h k;obtain ⟨-, -, m, -, n⟩ := h;rcases (n _ _ f).2.2.1 _ _ i with d | ⟨d, -⟩
  ·have a := d;unfold clearB at a;simp only [decide_eq_true_eq] at a;rw [d, a.2.1];exact ⟨rfl, rfl⟩
  ·unfold fullB at d;simp only [decide_eq_true_eq] at d;obtain ⟨⟨p0, -⟩, ⟨p1, p2⟩, -⟩ := d;refine ⟨by simp [betw]; omega, ?_⟩;unfold clearB;rw [decide_eq_false (by omega), decide_eq_false (by omega)]
theorem event_shape1 {w : World} {cs : List Value} {u : EventD} (h : eventR.rd w cs u) : ∃ (ea : Option Addr) (ec : Nat), cs = [nI u.1, nI u.2.1.1, nI u.2.1.2.1, nI u.2.1.2.2.1, nI u.2.1.2.2.2, nI u.2.2.1, nI u.2.2.2.1, sL ea u.2.2.2.2.1.length ec, nI u.2.2.2.2.2] ∧ u.2.2.2.2.1.length ≤ ec ∧ ec ≤ maxLen ∧ SlRd intR w ea u.2.2.2.2.1 := by
 obtain ⟨v1, v2, v3, v4, v7, rfl, -, f, -, -, ⟨a, c, e, g, d, q⟩, -⟩ := event_rd h;obtain ⟨b, -⟩ := op_rd4 f;simp only [List.cons.injEq, and_true] at b e;obtain ⟨rfl, rfl, rfl, rfl⟩ := b;obtain rfl := e;exact ⟨a, c, rfl, g, d, q⟩
theorem event_shape0 {w : World} {cs : List Value} {u : EventD} (h : eventR.rd w cs u) : ∃ (ea : Option Addr) (ec : Nat), cs = [nI u.1, nI u.2.1.1, nI u.2.1.2.1, nI u.2.1.2.2.1, nI u.2.1.2.2.2, nI u.2.2.1, nI u.2.2.2.1, sL ea u.2.2.2.2.1.length ec, nI u.2.2.2.2.2] := by
 obtain ⟨a, c, e, -⟩ := event_shape1 h;exact ⟨a, c, e⟩
theorem idxFnEvent {p : EventD → Bool} {g : Nat} (a : Option Addr) (xs : List EventD) (cap : Nat) (w : World) (h : SlRd eventR w a xs) (hm : xs.length ≤ maxLen) (HP : ∀ (x : EventD) (q : List Value) (W : World), x ∈ xs → Below w.heap.size w W → eventR.rd W q x → Calls Tryz.prog 214 #[aggV q, .pointer (some ⟨g, 0, none⟩)] W fun e w' => e = .returned (.bool (!p x)) ∧ Below W.heap.size W w') :
    Calls Tryz.prog 246 #[sL a xs.length cap, .func (.func 214) #[] #[.pointer (some ⟨g, 0, none⟩)]] w fun e w' => e = .returned (nI (badP p xs)) ∧ Below w.heap.size w w' := by
 have R : xs.length ≤ 9223372036854775807 := hm;have T : Hid (∀ W, Below w.heap.size w W → SlRd eventR W a xs) := fun W m => slrd_keep h fun k E => m.block k E;have z : Hid _ := HP;clear h hm HP;go_enter Tryz.func246, Tryz.ntmps246;go_wp2;go_loopw [8] (fun i wr => ∃ k : Nat, k ≤ xs.length ∧ i = nI k ∧ (∀ j v, j < k → xs[j]? = some v → p v = true) ∧ Below w.heap.size w wr) (fun i _ => xs.length - (intOf i).toNat)
 case atStart => exact ⟨0, Nat.zero_le _, rfl, fun j v hj => by omega, Below.refl _ _⟩
 case round =>
  obtain ⟨k, E, rfl, l, f⟩ := hrel;by_cases y : k < xs.length
  ·have I : (k : Int) < (xs.length : Int) := by omega
   obtain ⟨x, r⟩ : ∃ x, xs[k]? = some x := ⟨_, List.getElem?_eq_getElem y⟩;obtain ⟨b, S, q, rfl, c, d⟩ := slrd_at (T.out _ f) r;have n := z.out x q wr (List.mem_of_getElem? r) f c;obtain ⟨D, K, rfl⟩ := event_shape0 c;rw [show aggV [nI x.1, nI x.2.1.1, nI x.2.1.2.1, nI x.2.1.2.2.1, nI x.2.1.2.2.2, nI x.2.2.1, nI x.2.2.2.1, sL D x.2.2.2.2.1.length K, nI x.2.2.2.2.2] = .agg #[nI x.1, nI x.2.1.1, nI x.2.1.2.1, nI x.2.1.2.2.1, nI x.2.1.2.2.2, nI x.2.2.1, nI x.2.2.2.1, sL D x.2.2.2.2.1.length K, nI x.2.2.2.2.2] from rfl] at n;obtain ⟨F, L, N, M, G, C, A, J, H⟩ := cellsAt9 d rfl;have B : Hid (xs[k]? = some x) := r;clear r d c;cases m : p x
   ·have s : Hid (badP p xs = k) := badP_at B.out m l;rw [m] at n;go_wp2_with fail
    refine n.mono ?_;rintro e O ⟨rfl, o⟩;replace f := below_step f o;clear o F L N M G C A J H;go_wp2;go_ret
    exact ⟨ret_int s.out.symm, f⟩
   ·rw [m] at n;go_wp2_with fail
    refine n.mono ?_;rintro e O ⟨rfl, o⟩;replace f := below_step f o;clear o F L N M G C A J H;go_wp2;go_roundw
    case rel =>
     refine ⟨k + 1, by omega, by go_num, fun j v hj hv => ?_, f⟩;by_cases U : j < k
     ·exact l j v U hv
     ·have : j = k := by omega
      subst this;rw [B.out] at hv;cases hv;exact m
    case measure => simp [intOf]; omega
  ·have s : Hid (badP p xs = -1) := badP_no fun j v hv => l j v (by have := (List.getElem?_eq_some_iff.1 hv).1; omega) hv;go_wp2;go_ret
   exact ⟨ret_int s.out.symm, f⟩
theorem conFnEvent {p : EventD → Bool} {g : Nat} (a : Option Addr) (xs : List EventD) (cap : Nat) (w : World) (h : SlRd eventR w a xs) (hm : xs.length ≤ maxLen) (HP : ∀ (x : EventD) (cs : List Value) (W : World), x ∈ xs → Below w.heap.size w W → eventR.rd W cs x → Calls Tryz.prog 214 #[aggV cs, .pointer (some ⟨g, 0, none⟩)] W fun e w' => e = .returned (.bool (!p x)) ∧ Below W.heap.size W w') :
    Calls Tryz.prog 213 #[sL a xs.length cap, .func (.func 214) #[] #[.pointer (some ⟨g, 0, none⟩)]] w fun e w' => e = .returned (.bool (!xs.all p)) ∧ Below w.heap.size w w' := by
 have f := idxFnEvent a xs cap w h hm HP;have b := badP_all p xs;clear h hm HP;generalize badP p xs = q at f b;generalize xs.all p = y at b ⊢;subst b;by_cases i : q < 0
 ·have c : ¬ (0 ≤ q) := by omega
  go_enter Tryz.func213, Tryz.ntmps213;go_wp2_with fail
  refine f.mono ?_;rintro e j ⟨rfl, d⟩;go_wp2;go_ret
  exact ⟨by simp [i], d⟩
 ·have c : 0 ≤ q := by omega
  go_enter Tryz.func213, Tryz.ntmps213;go_wp2_with fail
  refine f.mono ?_;rintro e j ⟨rfl, d⟩;go_wp2;go_ret
  exact ⟨by simp [i], d⟩
theorem closFitEvent {q : Bool} {g : Nat} (x : EventD) (cs : List Value) (w : World) (h : eventR.rd w cs x) (hg : w.heap[g]? = some (.cells #[.func (.func 155) #[] #[]] 132 (0, 0)))
    (HF : ∀ W, Below w.heap.size w W → Calls Tryz.prog 155 #[aggV cs] W fun e w' => e = .returned (.bool q) ∧ Below W.heap.size W w') :
    Calls Tryz.prog 214 #[aggV cs, .pointer (some ⟨g, 0, none⟩)] w fun e w' => e = .returned (.bool (!q)) ∧ Below w.heap.size w w' := by
 obtain ⟨a, b, rfl⟩ := event_shape0 h;rw [show aggV [nI x.1, nI x.2.1.1, nI x.2.1.2.1, nI x.2.1.2.2.1, nI x.2.1.2.2.2, nI x.2.2.1, nI x.2.2.2.1, sL a x.2.2.2.2.1.length b, nI x.2.2.2.2.2] = .agg #[nI x.1, nI x.2.1.1, nI x.2.1.2.1, nI x.2.1.2.2.1, nI x.2.1.2.2.2, nI x.2.2.1, nI x.2.2.2.1, sL a x.2.2.2.2.1.length b, nI x.2.2.2.2.2] from rfl] at HF ⊢;have B := box_below w (.cells #[nI x.1, nI x.2.1.1, nI x.2.1.2.1, nI x.2.1.2.2.1, nI x.2.1.2.2.2, nI x.2.2.1, nI x.2.2.2.1, sL a x.2.2.2.2.1.length b, nI x.2.2.2.2.2] 135);have G := row_keep B hg;have c : Hid _ := HF;clear h hg HF;go_enter Tryz.func214, Tryz.ntmps214;go_upto_region 1 with fail
 have X := heap_at w (.cells #[nI x.1, nI x.2.1.1, nI x.2.1.2.1, nI x.2.1.2.2.1, nI x.2.1.2.2.2, nI x.2.2.1, nI x.2.2.2.1, sL a x.2.2.2.2.1.length b, nI x.2.2.2.2.2] 135);generalize w.alloc (.cells #[nI x.1, nI x.2.1.1, nI x.2.1.2.1, nI x.2.1.2.2.1, nI x.2.1.2.2.2, nI x.2.2.1, nI x.2.2.2.1, sL a x.2.2.2.2.1.length b, nI x.2.2.2.2.2] 135) = W0 at B G X ⊢;have j : W0.cell? ⟨g, 0, none⟩ = some (.func (.func 155) #[] #[]) := by rw [cell_of_row W0 g 0 _ _ (0, 0) G]; rfl
 obtain ⟨r, n, p, f, o, m, k, i, l⟩ := cells_core X;clear G X;go_wp2_with fail
 refine (c.out _ B).mono ?_;rintro e w1 ⟨rfl, d⟩;replace B := below_step B d;clear j d r n p f o m k i l;go_wp2;go_ret
 exact ⟨rfl, B⟩
theorem allFitEvent {p : EventD → Bool} (a : Option Addr) (xs : List EventD) (cap : Nat) (w : World) (h : SlRd eventR w a xs) (hm : xs.length ≤ maxLen)
    (HF : ∀ (x : EventD) (cs : List Value) (W : World), x ∈ xs → Below w.heap.size w W → eventR.rd W cs x → Calls Tryz.prog 155 #[aggV cs] W fun e w' => e = .returned (.bool (p x)) ∧ Below W.heap.size W w') :
    Calls Tryz.prog 154 #[sL a xs.length cap, .func (.func 155) #[] #[]] w fun e w' => e = .returned (.bool (xs.all p)) ∧ Below w.heap.size w w' := by
 have B := box_below w (.cells #[.func (.func 155) #[] #[]] 132);have G := heap_at w (.cells #[.func (.func 155) #[] #[]] 132);have b := conFnEvent (p := p) (g := w.heap.size) a xs cap (w.alloc (.cells #[.func (.func 155) #[] #[]] 132)) (slrd_next h B) hm (fun x cs W hx hb hr => closFitEvent x cs W hr (row_keep hb G) (fun W2 hb2 => HF x cs W2 hx (below_step (below_step B hb) hb2) (rd_next hr hb2)));clear h hm HF G;generalize xs.all p = y at b ⊢;go_enter Tryz.func154, Tryz.ntmps154;go_wp2_with fail
 refine b.mono ?_;rintro e w1 ⟨rfl, c⟩;replace B := below_step B c;clear c;go_wp2;go_ret
 exact ⟨by simp, B⟩
end Go.Proofs.YtdamokokcdcedaaGreatDoor
