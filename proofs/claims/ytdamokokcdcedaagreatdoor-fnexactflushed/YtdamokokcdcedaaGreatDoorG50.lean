import Derived.Test.YtdamokokcdcedaaGreatDoorG00Box
import Derived.Test.YtdamokokcdcedaaGreatDoorG49
namespace Go.Proofs.YtdamokokcdcedaaGreatDoor
set_option maxHeartbeats 4000000
set_option maxRecDepth 20000
open Go.ChangeShapes Go.WideShapes Go.ChangeAt Go.RowKit
set_option linter.unusedVariables false
theorem specFab_u (cs : List Value) (x : FabricD) (w : World) (h : fabricR.rd w cs x) (hbk : fabricM.bk x ≤ 1048576) :
    Calls Tryz.prog 24 #[aggV cs] w fun e w' => e = .returned (.bool (fabI x)) ∧ Bl w w' := by
 rw [← fab_eq];exact specFabricOk_u cs x w h hbk
variable {α : Type}
set_option linter.unusedSimpArgs false
theorem made_cap {α : Type} {e : TypeId} {R : Rep α} (w : World) (cur : Array Value) (n : Nat) (hm : n ≤ maxLen) (hs : cur.size = n * R.size) : MadeR (slR e R) w (w.alloc (.cells cur e)) [sL (some ⟨w.heap.size, 0, none⟩) 0 n] [] := by
 refine ⟨⟨_, [], fun _ => False, rfl, World.ownsRow_made (base := 0) (e := e) (size := R.size) w cur n (Nat.zero_le _) hm hs, fun g hg => ?_, fun _ h => h.elim, rfl⟩, box_below w _⟩;simp [Value.ownBlock] at hg
 subst hg;exact ⟨⟨Nat.le_refl _, by simp⟩, fun h => h⟩
theorem made_from {α : Type} {Q : Rep α} {w u wr : World} {cs : List Value} {xs : α} (B : Bl w u) (M : MadeR Q u wr cs xs) : MadeR Q w wr cs xs :=
 ⟨Q.own_mono M.1 (rng_sub B.size (Nat.le_refl _)), below_step B M.2⟩
theorem aloneL (l s : Int) (n : Nat) (ad : Option Addr) (cpw : Nat) (w : World) (hh : HoldT w) (hs : betw s 0 3 = true) : Calls Tryz.prog 36 #[.agg #[nI l, nI s, sL ad n cpw]] w fun e w' => e = .returned (.bool (decide (2 ≤ s))) ∧ Below w.heap.size w w' := by
 have B := box_below w (.cells #[nI l, nI s, sL ad n cpw] 74);have hl := hh.lt;obtain ⟨c0, c1, c2, c3, c4, c5, c6, c7, c8, c9, c, a⟩ := (hh.goes B).cells;rcases state4 hs with rfl | rfl | rfl | rfl
 all_goals
  clear hs;have b : Hid _ := B;clear B;go_enter Tryz.func36, Tryz.ntmps36;go_wp2;go_ret
  exact ⟨rfl, b.out⟩
theorem copy_push {xss : List (List Int)} {rs : List Rw} {k g c : Nat} {xs : List Int} (h : rs.map Rw.xs = xss.take k) (hx : xss[k]? = some xs) : (rs ++ [(⟨g, c, xs⟩ : Rw)]).map Rw.xs = xss.take (k + 1) := take_push h hx
theorem l4Copy_any (a : Option Addr) (xss : List (List Int)) (p : Nat) (w : World) (h : ReadsM w a xss) (hk : memOk xss = true) :
    Calls Tryz.prog 75 #[sL a xss.length p] w fun e w' => ∃ v, e = .returned v ∧ MadeM w w' v xss := by
 obtain ⟨i0, K, L, I, R⟩ := info_parts Tryz.infoS;have hl := memOk_len hk;go_enter Tryz.func75, Tryz.ntmps75;go_wp2;go_loopw [3, 4] (fun v i wr => ∃ k : Nat, k ≤ xss.length ∧ i = nI k ∧ v ≠ sL none 0 0 ∧ ∃ rs : List Rw, rs.map Rw.xs = xss.take k ∧ wr.ownsRow w.heap.size 68 1 v k (rs.map Rw.v) ∧ Inn w.heap.size wr.heap.size wr rs ∧ Bl w wr)
  (fun _ i _ => xss.length - (intOf i).toNat)
 case atStart => exact ⟨0, by omega, rfl, by simp, [], rfl, World.ownsRow_lit _ #[] 0 (Nat.le_refl _) (Nat.zero_le _) rfl, inn_nil _ _ _, (Below.refl _ _).alloc (Nat.le_refl _) _⟩
 case round =>
  obtain ⟨k, iA, rfl, hv, rs, n, d, o, s⟩ := hrel;have C := s.size;by_cases T : k < xss.length
  ·have eA : (k : Int) < (xss.length : Int) := by omega
   obtain ⟨xs, E⟩ := get_of_lt T;obtain ⟨b, vA, aj, cj, rfl, g1, H⟩ := readsM_at (readsM_below h s) E;rcases isL_cases xs with Z | ⟨x, y, rfl, rA, yA⟩
   ·rw [memOk_get hk E] at Z; cases Z
   obtain ⟨b', A, rfl, _, _⟩ := reads_two H;have X : Hid (Reads wr (some ⟨b', A, none⟩) [x, y]) := H;have HP : Hid (∀ g c, _) := fun g c => copy_push (g := g) (c := c) n E;have HI : Hid _ := o;have HB : Hid _ := s;clear h E H n o s;go_wp2_with fail
   refine (l1Copy_any _ [x, y] _ _ X.out (by simp)).mono ?_;rintro e w1 ⟨v1, rfl, g, c, rfl, l1, J, o1, B⟩;have N := shape_of d hv;obtain ⟨G, cG, rfl, pA, S⟩ := N;have l := own_below d B S;have F : Hid _ := inn_push (inn_below HI.out B (Nat.le_refl _)) (owni_less o1 C) l1 J;have M : Hid _ := below_step HB.out B;have D : w.heap.size ≤ w1.heap.size := Nat.le_trans C B.size;clear HI HB B o1 d X g1;go_wp2_with (at_builtin; refine wpList_append_own _ rfl _ _ 24 rfl w.heap.size 68 i0 (sL none 0 0) 1 24 Tryz.underlying24 K L I R rfl (by decide) _ _ _ rfl (World.ownsRow.alloc l _) ⟨_, 0, none⟩ 1 1 [sL (some ⟨g, 0, none⟩) 2 c] rfl rfl ?c1 ?c2 ?c3 ?c4 ?c5 ?_)
   case c1 =>
    intro j u r;match j, r with
    | 0, r => simp at r; subst r; simp [Addr.add]
   case c2 => intro u Y; simp at Y; subst Y; rfl
   case c3 => unfold maxLen; omega
   case c4 => omega
   case c5 => simp; omega
   ·intro v' w2 m f q;have V : v' ≠ sL none 0 0 := q;have AO := app_own (rs := rs) (g := g) (c := c) (xs := [x, y]) (World.ownsRow.alloc l _) (inn_mono (inn_below F.out ((Below.refl _ _).alloc (Nat.le_refl _) _) (by simp)) (by simp)) m f;have HA : Hid _ := AO;have BB := (M.out.alloc D _).grown f (by simp; omega) (fun j r => (l.lt j r).1);clear m f l q AO;go_wp2;go_roundw
    case rel => exact ⟨k + 1, by omega, by go_num, V, _, HP.out g c, HA.out.1, HA.out.2, BB⟩
    case measure => simp [intOf]; omega
  ·have U : k = xss.length := by omega
   subst U;rw [List.take_length] at n;obtain ⟨g, p, rfl, O, z⟩ := shape_of d hv;have MM : MadeM w wr (sL (some ⟨g, 0, none⟩) xss.length p) xss := ⟨g, p, rfl, O, z, ⟨rs, n, d, z, o⟩, s⟩;clear d o s;go_wp2;go_ret
   exact ⟨_, rfl, MM⟩
theorem lown_rows {lo hi : Nat} {w : World} : ∀ (rs : List Rw), Inn lo hi w rs → (∀ r ∈ rs, ∀ x ∈ r.xs, In64 x) → lown intsR w (fun k => ∃ (i : Nat) (r : Rw), rs[i]? = some r ∧ r.g = k) (rs.map Rw.v) (rs.map Rw.xs)
 | [], _, _ => rfl
 | r :: rs, h, h64 => by
  have b : Inn lo hi w rs := ⟨fun i s a => h.1 (i + 1) s (by simpa using a), fun i j s t a ht e => by have := h.2 (i + 1) (j + 1) s t (by simpa using a) (by simpa using ht) e; omega⟩;have c := h.1 0 r rfl;refine ⟨[r.v], rs.map Rw.v, fun k => k = r.g, fun k => ∃ (i : Nat) (s : Rw), rs[i]? = some s ∧ s.g = k, rfl, ?_, lown_rows rs b (fun s a => h64 s (List.mem_cons_of_mem _ a)), ?_, ?_, ?_⟩
  ·exact own_of (S := fun k => k = r.g) c.1 rfl (h64 r (List.mem_cons_self ..))
  ·rintro k rfl;exact ⟨0, r, rfl, rfl⟩
  ·rintro k ⟨i, s, a, e⟩;exact ⟨i + 1, s, by simpa using a, e⟩
  ·rintro k rfl ⟨i, s, a, e⟩;have := h.2 (i + 1) 0 s r (by simpa using a) rfl e;omega
theorem madeM_rep {w w' : World} {v : Value} {xss : List (List Int)} (h : MadeM w w' v xss) (h64 : ∀ xs ∈ xss, ∀ x ∈ xs, In64 x) : MadeR rowsR w w' [v] xss := by
 obtain ⟨G, l, rfl, f, m, ⟨c, rfl, d, g3, a⟩, j⟩ := h;refine ⟨⟨_, c.map Rw.v, fun k => ∃ (i : Nat) (r : Rw), c[i]? = some r ∧ r.g = k, rfl, row_base d (fun _ _ => Nat.zero_le _), fun g hg => ?_, ?_, lown_rows c a fun r b => h64 r.xs (List.mem_map_of_mem b)⟩, j⟩
 ·simp [Value.ownBlock] at hg
  subst hg;refine ⟨⟨f, m⟩, ?_⟩;rintro ⟨i, r, b, e⟩;exact out_ne d (a.1 i r b).1 e
 ·rintro k ⟨i, r, b, rfl⟩;have := a.1 i r b;exact ⟨(own_lt this.1).1, this.2⟩
theorem mask_all {xs : List Int} {p q : Int} (hx : isL xs = true) (hy : isL [p, q] = true) : maskL xs [p, q] 3 = [p, q] := by
 unfold maskL;rw [hx, hy];rfl
def RowS (n : Nat) (l s : Int) (d : List Int) (zs zs' : List Int) : Prop := zs'.length = n * 2 ∧ ∀ k : Nat, k < n → pr zs' k = if l = (k : Int) ∧ 2 ≤ s then d else pr zs k
def FlushQ (B g cap n : Nat) (l s : Int) (d zs : List Int) (tb : Nat) (W : World) (e : Ending) (w' : World) : Prop :=
 (∃ v, e = .returned v) ∧ ∃ zs' : List Int, RowS n l s d zs zs' ∧ OwnI B w' g cap zs' ∧ w'.heap[tb]? = some (.cells #[.slice (some ⟨g, 0, none⟩) zs'.length cap] 69 (0, 0)) ∧ W.grownBy w' (some g)
theorem flushOne_any (i l s : Int) (d : List Int) (ua : Option Addr) (uc tb g cap n B : Nat) (zs : List Int) (w : World) (hb : w.heap[tb]? = some (.cells #[sL (some ⟨g, 0, none⟩) zs.length cap] 69 (0, 0))) (htg : tb ≠ g) (ow : OwnI B w g cap zs) (hz : zs.length = n * 2) (hn : n ≤ 16) (hok : ∀ k : Nat, k < n → isL (pr zs k) = true) (hh : HoldT w) (hs : betw s 0 3 = true) (hr : SlRd intR w ua d) (hf : 2 ≤ s → isL d = true ∧ 0 ≤ l ∧ l < (n : Int)) :
    Calls Tryz.prog 35 #[nI i, .agg #[nI l, nI s, sL ua d.length uc], .pointer (some ⟨tb, 0, none⟩)] w fun e w' => FlushQ B g cap n l s d zs tb w e w' := by
 have C : Hid (∀ V, Bl w V → Calls Tryz.prog 36 #[.agg #[nI l, nI s, sL ua d.length uc]] V fun e w' => e = .returned (.bool (decide (2 ≤ s))) ∧ Bl V w') := fun V hv => aloneL _ _ _ _ _ V (hh.goes hv) hs;have X := heap_at w (.cells #[nI l, nI s, sL ua d.length uc] 74);have a := box_below w (.cells #[nI l, nI s, sL ua d.length uc] 74);have Bg := (owni_lt ow).2;have E : Hid (∀ V, Bl w V → ∀ W, V.grownBy W (some g) → w.grownBy W (some g)) := fun V hv W hw => grown_trans (grown_of_below hv _) hw;by_cases A : 2 ≤ s
 ·obtain ⟨F, U, K⟩ := hf A;obtain ⟨j, rfl⟩ : ∃ j : Nat, l = (j : Int) := ⟨l.toNat, by omega⟩;have I : j < n := by omega
  rcases isL_cases d with r | ⟨p, q, rfl, hp, hq⟩
  ·rw [F] at r; cases r
  have J : Hid _ := fun (V : World) (hv : Bl w V) => write_yes B g cap n uc j zs [p, q] ua 3 p q V (owni_below ow hv Bg) (reads_of (slrd_next hr hv)) hz hn I (mask_all (hok j I) F)
  have D : Hid (RowS n (j : Int) s [p, q] zs ((zs.set (j * 2) p).set (j * 2 + 1) q)) := ⟨by simp [hz], fun k hk => by
   rw [pr_set zs j k p q (by omega)];by_cases e : k = j
   ·rw [if_pos e, if_pos ⟨by rw [e], A⟩]
   ·rw [if_neg e, if_neg (fun q => e (by omega))]⟩
  have b : decide (2 ≤ s) = true := decide_eq_true A;rw [b] at C;have L : Hid (((zs.set (j * 2) p).set (j * 2 + 1) q).length = zs.length) := by unfold Hid; simp
  have Y : Hid (tb < w.heap.size) := (ltH hb);clear hok hh hs hr F b hf hz ow;go_enter Tryz.func35, Tryz.ntmps35;go_upto_region 1 with fail
  have T := row_keep a hb;generalize w.alloc (.cells #[nI (j : Int), nI s, .slice ua [p, q].length uc] 74) = u1w at X a T ⊢;obtain ⟨m, o, y⟩ := cells_three X;go_wp2_with fail
  clear m o y;refine (C.out _ a).mono ?_;rintro e f ⟨rfl, c⟩;replace X := row_keep c X;replace T := row_keep c T;replace a := below_step a c;clear c;obtain ⟨m, o, y⟩ := cells_three X;have M : f.cell? ⟨tb, 0, none⟩ = some (sL (some ⟨g, 0, none⟩) zs.length cap) := by rw [cell_of_row f tb 0 _ _ (0, 0) T]; rfl
  go_wp2_with fail
  clear m o y M X;refine (J.out _ a).mono ?_;rintro e z ⟨rfl, N, H⟩;have R : z.heap[tb]? = some (.cells #[sL (some ⟨g, 0, none⟩) zs.length cap] 69 (0, 0)) := (H.block tb (ltH T) (fun e => htg (by cases e; rfl))).trans T;have O : Hid (w.grownBy z (some g)) := E.out _ a _ H;go_wp2;exact bodyPost_end (v := .tuple #[]) (by simp [results, Tryz.results35, go_sem]) rfl ⟨⟨_, rfl⟩, _, D.out, N, by rw [L.out]; exact R, O.out⟩
 ·have b : decide (2 ≤ s) = false := decide_eq_false A;rw [b] at C;have D : Hid (RowS n l s d zs zs) := ⟨hz, fun k hk => by rw [if_neg (fun q => A q.2)]⟩;have S : Hid (∀ V, Bl w V → OwnI B V g cap zs) := fun V hv => owni_below ow hv Bg;clear hok hh hs hr b hf hz ow;go_enter Tryz.func35, Tryz.ntmps35;go_upto_region 1 with fail
  have T := row_keep a hb;generalize w.alloc (.cells #[nI l, nI s, sL ua d.length uc] 74) = u1w at X a T ⊢;obtain ⟨m, o, y⟩ := cells_three X;go_wp2_with fail
  clear m o y;refine (C.out _ a).mono ?_;rintro e f ⟨rfl, c⟩;replace T := row_keep c T;replace a := below_step a c;clear c X;have G : Hid _ := aI a T;clear a T;go_wp2;exact bodyPost_end (v := .tuple #[]) (by simp [results, Tryz.results35, go_sem]) rfl ⟨⟨_, rfl⟩, zs, D.out, S.out _ G.out.1, G.out.2, grown_of_below G.out.1 _⟩
theorem fab_memOk {x : FabricD} (h : fabI x = true) : memOk x.2.1.1 = true := by
 unfold fabI at h;simp only [Bool.and_eq_true, decide_eq_true_eq] at h;obtain ⟨hc, a, -⟩ := h;unfold houseFit houseB at a;simp only [Bool.and_eq_true, decide_eq_true_eq] at a;exact a.1.1
theorem fab_rows {x : FabricD} {w : World} {a1 : Option Addr} {c1 : Nat} {b1 : Option Addr} {d1 : Nat} {a2 : Option Addr} {c2 : Nat} {a3 : Option Addr} {c3 : Nat} {b3 : Option Addr} {d3 : Nat} {a4 : Option Addr} {c4 : Nat} {a5 : Option Addr} {c5 : Nat} (R : FabRd w x a1 c1 b1 d1 a2 c2 a3 c3 b3 d3 a4 c4 a5 c5) : SlRd intsR w a1 x.2.1.1 ∧ x.2.1.1.length ≤ 9223372036854775807 := by
 obtain ⟨v0, v1, e, ⟨a, c, b, d, f, q⟩, -⟩ := house_rd R.house;simp only [List.cons.injEq, and_true] at e b;obtain ⟨rfl, rfl⟩ := e;cases b;exact ⟨q, Nat.le_trans d f⟩
theorem fab_way {x : FabricD} {u : CoreD} {M k L : Nat} (h : fabI x = true) (hu : u ∈ x.2.2.1) (hrow : ∀ c ∈ u.1.1, c.length = M) (hM : 0 < M) (hk : k < u.1.1.length * M) (hL : L = x.1.2.2.2.toNat) (hc : clearB (wayK u.1 M k) = false) : betw (wayK u.1 M k).2.1 0 3 = true ∧ isL (wayK u.1 M k).2.2 = true ∧ 0 ≤ (wayK u.1 M k).1 ∧ (wayK u.1 M k).1 < (L : Int) := by
 obtain ⟨c, l, i⟩ := wayK_get hM hrow hk;obtain ⟨h1, h2, m, hm, n⟩ := fab_core h hu;obtain ⟨-, -, o⟩ := n _ _ l;rcases o.1 _ _ i with d | ⟨d, -⟩
 ·rw [d] at hc; cases hc
 ·unfold fullB at d;simp only [decide_eq_true_eq] at d;obtain ⟨⟨r, q1⟩, ⟨q2, q3⟩, p⟩ := d;refine ⟨by simp [betw]; omega, p, r, ?_⟩;have g := h;unfold fabI at g;simp only [Bool.and_eq_true, decide_eq_true_eq] at g;obtain ⟨-, -, a, -⟩ := g;unfold coresFit at a;simp only [Bool.and_eq_true, decide_eq_true_eq] at a;have q := List.all_eq_true.1 a.2 u hu;unfold coreFit at q;simp only [Bool.and_eq_true, decide_eq_true_eq] at q;have b := q.2.2.1;unfold cacheIn at b;simp only [Bool.and_eq_true, decide_eq_true_eq] at b;have f := b.2.2;unfold waysIn at f;have j := List.all_eq_true.1 (List.all_eq_true.1 f c (List.mem_of_getElem? l)) _ (List.mem_of_getElem? i);unfold wayIn lineIn betw at j;simp only [Bool.or_eq_true, decide_eq_true_eq] at j;omega
theorem isL_small {d : List Int} (h : isL d = true) : ∀ y ∈ d, In64 y := by
 rcases isL_cases d with a | ⟨p, q, rfl, f, c⟩
 ·rw [h] at a; cases a
 ·simp only [okW, betw, decide_eq_true_eq] at f c;intro y b;simp at b
  rcases b with rfl | rfl <;> constructor <;> omega
theorem flush_isL {x : FabricD} (h : fabI x = true) : ∀ c ∈ flushL x, isL c = true := by
 intro c b;unfold flushL at b;obtain ⟨k, d, rfl⟩ := List.mem_map.1 b;refine flL_isL h (by omega) ?_ _ (Nat.le_refl _);have f := fab_memOk h;have hl := fab_mem h;obtain ⟨⟨h1, h2⟩, h3⟩ := fab_lines h;have a : k < x.2.1.1.length := by simp at d; omega
 rw [Int.toNat_natCast, List.getD_eq_getElem?_getD, List.getElem?_eq_getElem a];exact memOk_get f (List.getElem?_eq_getElem a)
theorem flush_in64 {x : FabricD} (h : fabI x = true) : ∀ xs ∈ flushL x, ∀ y ∈ xs, In64 y := fun xs hx => isL_small (flush_isL h xs hx)
def FlushJ (x : FabricD) (T M L B g cap tb : Nat) (W0 : World) (n : Nat) (W : World) : Prop :=
 ∃ zs : List Int, zs.length = L * 2 ∧ (∀ k : Nat, k < L → pr zs k = flF x T M k n ∧ isL (pr zs k) = true) ∧ OwnI B W g cap zs ∧ W.heap[tb]? = some (.cells #[.slice (some ⟨g, 0, none⟩) (L * 2) cap] 69 (0, 0)) ∧ Below W0.heap.size W0 W
theorem flushJ_own {x : FabricD} {T M L B g cap tb B' : Nat} {W0 : World} (hg : g < B') (ht : tb < B') (h0 : W0.heap.size ≤ B') : OwnFrom B' (FlushJ x T M L B g cap tb W0) := by
 rintro n X Y j ⟨m, o, l, d, c, f⟩ a i;have b : ∀ k, k < B' → k < X.heap.size → Y.heap[k]? = X.heap[k]? := fun k hk hl => a.block k hl (fun e => by have := (i k e.symm).1; omega);refine ⟨m, o, l, orow_keep d (fun k hk => ?_), (b tb ht (ltH c)).trans c, f.grown a (by have := f.size; omega) (fun k e => by have := (i k e).1; omega)⟩;simp [Value.ownBlock] at hk
 subst hk;exact b _ hg (owni_lt d).2
theorem implFlushed_any (x : FabricD) (a1 : Option Addr) (c1 : Nat) (J : Option Addr) (d1 : Nat) (a2 : Option Addr) (c2 : Nat) (a3 : Option Addr) (c3 : Nat) (b3 : Option Addr) (d3 : Nat) (a4 : Option Addr) (c4 : Nat) (a5 : Option Addr) (c5 : Nat) (w : World) (R : FabRd w x a1 c1 J d1 a2 c2 a3 c3 b3 d3 a4 c4 a5 c5) (hh : Hold w) (ht : HoldT w) :
    Calls Tryz.prog 9 #[.agg #[nI x.1.1, nI x.1.2.1, nI x.1.2.2.1, nI x.1.2.2.2, sL a1 x.2.1.1.length c1, sL J x.2.1.2.length d1, sL a2 x.2.2.1.length c2, sL a3 x.2.2.2.1.1.length c3, nI x.2.2.2.1.2.1, .bool x.2.2.2.1.2.2.1, sL b3 x.2.2.2.1.2.2.2.length d3, sL a4 x.2.2.2.2.1.length c4, sL a5 x.2.2.2.2.2.length c5]] w fun e A => ∃ v, e = .returned v ∧ MadeR rowsR w A [v] (flushI x) := by
 have H0 : Hid _ := fun (W : World) (hb : Bl w W) => implFabricOk_any x a1 c1 J d1 a2 c2 a3 c3 b3 d3 a4 c4 a5 c5 W (fab_next R hb) (hh.goes hb);have B := Below.refl w.heap.size w;cases l : fabI x
 ·have HV : Hid (flushI x = []) := by unfold Hid flushI; rw [l]; rfl
  rw [l] at H0;clear R hh ht;go_enter Tryz.func9, Tryz.ntmps9;go_upto_region 1 with fail
  generalize b : w.alloc _ = u1w;have F := boxH b;have p := boxB b;have zF := boxL b;clear b;replace B := below_step B p;clear p zF;obtain ⟨Fc0, Fc1, Fc2, Fc3, Fc4, Fc5, Fc6, Fc7, Fc8, Fc9, Fc10, Fc11, Fc12⟩ := cells_fabric F;have Flt := (ltH F);go_wp2_with fail
  clear Fc0 Fc1 Fc2 Fc3 Fc4 Fc5 Fc6 Fc7 Fc8 Fc9 Fc10 Fc11 Fc12 Flt;refine (H0.out _ B).mono ?_;rintro e d ⟨rfl, m⟩;replace B := below_step B m;replace F := row_keep m F;clear m;obtain ⟨Fc0, Fc1, Fc2, Fc3, Fc4, Fc5, Fc6, Fc7, Fc8, Fc9, Fc10, Fc11, Fc12⟩ := cells_fabric F;have Flt := (ltH F);have HM : Hid (MadeR rowsR w (d.alloc (.cells #[] 68)) [sL (some ⟨d.heap.size, 0, none⟩) 0 0] (flushI x)) := by
   unfold Hid;rw [HV.out];exact made_from B (made_cap (e := 68) (R := intsR) d #[] 0 (Nat.zero_le _) rfl)
  clear B F;go_wp2;go_ret
  exact ⟨_, rfl, HM.out⟩
 ·obtain ⟨hS, hM, o⟩ := fab_shape l;obtain ⟨⟨LA, X⟩, mA⟩ := fab_lines l;obtain ⟨L, hL⟩ : ∃ L : Nat, L = x.1.2.2.2.toNat := ⟨_, rfl⟩;have G := fab_memOk l;have rA := fab_mem l;have cA : x.2.1.1.length = L := by omega
  have HV : Hid (flushI x = flushL x) := by unfold Hid flushI; rw [if_pos l]
  have JA : Hid (∀ W, Bl w W → Calls Tryz.prog 33 #[sL a1 x.2.1.1.length c1] W fun e A => ∃ (g a : Nat) (zs : List Int), e = .returned (.tuple #[sL (some ⟨g, 0, none⟩) zs.length a, .bool true]) ∧ Bl W A ∧ zs.length = L * 2 ∧ prs zs L = x.2.1.1 ∧ OwnI W.heap.size A g a zs) := fun W hb => by
   refine (rowOf_any a1 x.2.1.1 c1 W (readsM_of (slrd_next (fab_rows R).1 hb)) (fab_rows R).2).mono ?_;rintro e A ⟨v, rfl, pA, hz⟩;rw [G] at hz ⊢;obtain ⟨zs, h1, h2, h3⟩ := hz rfl;obtain ⟨g, c, rfl, l1, aB, o1, J⟩ := h3;rw [cA] at h1 h2;exact ⟨g, c, zs, rfl, pA, h1, h2, o1⟩
  have IA : Hid (∀ (C g a : Nat) (U W : World), w.heap.size ≤ U.heap.size → C ≠ g → C < W.heap.size → g < W.heap.size → FlushJ x (x.1.2.1.toNat * x.1.2.2.1.toNat) x.1.2.2.1.toNat L U.heap.size g a C w 0 W → Calls Tryz.prog 34 #[.agg #[nI x.1.1, nI x.1.2.1, nI x.1.2.2.1, nI x.1.2.2.2, sL a1 x.2.1.1.length c1, sL J x.2.1.2.length d1, sL a2 x.2.2.1.length c2, sL a3 x.2.2.2.1.1.length c3, nI x.2.2.2.1.2.1, .bool x.2.2.2.1.2.2.1, sL b3 x.2.2.2.1.2.2.2.length d3, sL a4 x.2.2.2.2.1.length c4, sL a5 x.2.2.2.2.2.length c5], .func (.func 35) #[] #[.pointer (some ⟨C, 0, none⟩)]] W fun e A => (∃ v, e = .returned v) ∧ FlushJ x (x.1.2.1.toNat * x.1.2.2.1.toNat) x.1.2.2.1.toNat L U.heap.size g a C w (x.2.2.1.length * (x.1.2.1.toNat * x.1.2.2.1.toNat)) A) := by
   intro C g a U W bB KA qA nA hJ;have MA : w.heap.size ≤ W.heap.size := by obtain ⟨zs, -, -, -, -, h5⟩ := hJ; exact h5.size
   refine handFlushed x a1 c1 J d1 a2 c2 a3 c3 b3 d3 a4 c4 a5 c5 w R x.1.2.1.toNat x.1.2.2.1.toNat hS hM o C W _ (flushJ_own nA qA MA) (fun n V hV => by obtain ⟨zs, -, -, -, -, h5⟩ := hV; exact h5) ?_ ?_ hJ
   ·rintro i k u V H s hc ⟨zs, z, D, z3, z4, Z⟩;exact ⟨zs, z, fun j hj => by rw [flF_clear H s hc]; exact D j hj, z3, z4, Z⟩
   ·rintro i k u ua uc V H s hc zA ⟨zs, z, D, z3, z4, Z⟩;have r := List.mem_of_getElem? H;obtain ⟨q1, q2⟩ := o u r;obtain ⟨q3, q4, q5⟩ := fab_way l r q2 (by omega) (by rw [q1]; exact s) hL hc;rw [← z] at z4;refine (flushOne_any i _ _ _ ua uc C g a L U.heap.size zs V z4 KA z3 z (by omega) (fun j hj => (D j hj).2) (ht.goes Z) q3 zA (fun h2 => ⟨q4, q5⟩)).mono ?_;rintro e A ⟨he, vA, ⟨K, y2⟩, y3, O, Y⟩;refine ⟨he, Kept.chg (S := fun j => j = g) (chg_grown Y rfl) (fun j e => by omega), vA, K, fun j hj => ?_, y3, by rw [← K]; exact O, Z.grown Y Z.size (fun k e => by cases e; have := (owni_lt z3).1; omega)⟩;rw [flF_step H s, y2 j hj];split
    ·exact ⟨rfl, q4⟩
    ·exact D j hj
  have DA : Hid (∀ zs : List Int, (∀ k : Nat, k < L → pr zs k = flF x (x.1.2.1.toNat * x.1.2.2.1.toNat) x.1.2.2.1.toNat k (x.2.2.1.length * (x.1.2.1.toNat * x.1.2.2.1.toNat)) ∧ isL (pr zs k) = true) → prs zs L = flushL x) := fun zs h => by
   unfold flushL prs;rw [← hL];refine List.map_congr_left fun k s => ?_;rw [(h k (by simpa using s)).1];exact flF_all l (by omega) (fun u H => ⟨by rw [(o u H).1], (o u H).2⟩) (by omega) _ (Nat.le_refl _)
  have HA : Hid (∀ zs : List Int, zs.length = L * 2 → prs zs L = x.2.1.1 → ∀ k : Nat, k < L → pr zs k = flF x (x.1.2.1.toNat * x.1.2.2.1.toNat) x.1.2.2.1.toNat k 0 ∧ isL (pr zs k) = true) := fun zs h1 h2 k s => by
   have e1 := prs_get (zs := zs) s;rw [h2] at e1;refine ⟨?_, memOk_get G e1⟩;rw [flF, List.getD_eq_getElem?_getD, Int.toNat_natCast, e1];rfl
  have M : Hid (∀ xs ∈ flushL x, ∀ y ∈ xs, In64 y) := flush_in64 l;have N : L ≤ 16 := by omega
  rw [l] at H0;clear R hh ht hS hM o LA X mA hL G rA l cA;go_enter Tryz.func9, Tryz.ntmps9;go_upto_region 1 with fail
  generalize b : w.alloc _ = u1w;have F := boxH b;have p := boxB b;have zF := boxL b;clear b;replace B := below_step B p;clear p zF;obtain ⟨Fc0, Fc1, Fc2, Fc3, Fc4, Fc5, Fc6, Fc7, Fc8, Fc9, Fc10, Fc11, Fc12⟩ := cells_fabric F;have Flt := (ltH F);go_wp2_with fail
  clear Fc0 Fc1 Fc2 Fc3 Fc4 Fc5 Fc6 Fc7 Fc8 Fc9 Fc10 Fc11 Fc12 Flt;refine (H0.out _ B).mono ?_;rintro e d ⟨rfl, m⟩;replace B := below_step B m;replace F := row_keep m F;clear m;obtain ⟨Fc0, Fc1, Fc2, Fc3, Fc4, Fc5, Fc6, Fc7, Fc8, Fc9, Fc10, Fc11, Fc12⟩ := cells_fabric F;have Flt := (ltH F);go_wp2_with fail
  clear Fc0 Fc1 Fc2 Fc3 Fc4 Fc5 Fc6 Fc7 Fc8 Fc9 Fc10 Fc11 Fc12 Flt;refine (JA.out _ B).mono ?_;rintro e f ⟨g, a, zs, rfl, m, z, D, I⟩;have hg := owni_lt I;have BA : w.heap.size ≤ d.heap.size := B.size;replace B := below_step B m;replace F := row_keep m F;clear m;have bA : Hid _ := HA.out zs z D;have Z1 : Hid _ := z;clear z D;go_upto_region 4 with fail
  have T := heap_at f (.cells #[sL (some ⟨g, 0, none⟩) zs.length a] 69);have p := box_below f (.cells #[sL (some ⟨g, 0, none⟩) zs.length a] 69);have zT := lE (alloc_len f (.cells #[sL (some ⟨g, 0, none⟩) zs.length a] 69)).symm;replace B := below_step B p;replace F := row_keep p F;replace I := owni_below I p hg.2;clear p;generalize f.alloc (.cells #[sL (some ⟨g, 0, none⟩) zs.length a] 69) = u4w at B F T I zT ⊢;rw [Z1.out] at T;have HJ : Hid (FlushJ x (x.1.2.1.toNat * x.1.2.2.1.toNat) x.1.2.2.1.toNat L d.heap.size g a f.heap.size w 0 u4w) := ⟨zs, Z1.out, bA.out, I, T, B⟩;have HC := IA.out f.heap.size g a d u4w BA (by omega) (by omega) (by omega) HJ.out;obtain ⟨Fc0, Fc1, Fc2, Fc3, Fc4, Fc5, Fc6, Fc7, Fc8, Fc9, Fc10, Fc11, Fc12⟩ := cells_fabric F;have Flt := (ltH F);clear F B I T;go_wp2_with fail
  clear Fc0 Fc1 Fc2 Fc3 Fc4 Fc5 Fc6 Fc7 Fc8 Fc9 Fc10 Fc11 Fc12 Flt;refine HC.mono ?_;rintro e E ⟨⟨v, rfl⟩, q, K, y2, y3, O, Y⟩;rw [← K] at O;have t0 : E.cell? ⟨f.heap.size, 0, none⟩ = some (sL (some ⟨g, 0, none⟩) q.length a) := by rw [cell_of_row E _ 0 _ _ (0, 0) O]; rfl
  have HE : Hid (prs q L = flushL x) := DA.out q y2;have FA := memory_any d.heap.size g a L q E y3 K N;have HY : Hid _ := Y;clear K y2 y3 O Y;go_wp2_with fail
  refine FA.mono ?_;rintro e jA ⟨vv, rfl, mm⟩;have HM : Hid (MadeR rowsR w jA [vv] (flushI x)) := by
   unfold Hid;rw [HE.out] at mm;rw [HV.out];exact made_from HY.out (madeM_rep mm M.out)
  clear mm t0;go_wp2;go_ret
  exact ⟨_, rfl, HM.out⟩
theorem ownM_mono {lo hi hi' G cap : Nat} {w : World} {xss : List (List Int)} (h : OwnM lo hi w G cap xss) (hh : hi ≤ hi') : OwnM lo hi' w G cap xss := by
 obtain ⟨b, d, c, h3, a⟩ := h;exact ⟨b, d, c, by omega, inn_mono a hh⟩
end Go.Proofs.YtdamokokcdcedaaGreatDoor
