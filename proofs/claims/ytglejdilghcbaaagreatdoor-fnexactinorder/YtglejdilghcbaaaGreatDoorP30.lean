import Derived.Test.YtglejdilghcbaaaGreatDoorP00Box
import Derived.Test.YtglejdilghcbaaaGreatDoorP15
import Derived.Laws.IdiomCopy
import Derived.Laws.Slices
import Derived.Test.YtglejdilghcbaaaGreatDoorP29
import Derived.Test.YtglejdilghcbaaaGreatDoorP19
import Derived.Test.YtglejdilghcbaaaGreatDoorP27
namespace Go.Proofs.YtglejdilghcbaaaGreatDoor
set_option maxHeartbeats 4000000
open Go.ChangeShapes Go.WideShapes Go.ChangeAt Go.RowKit
theorem made_zeroM (n : Nat) : (madeCells #[nI 0] n).toList = (List.replicate n (0 : Int)).map (Value.int .i64) := by
 apply List.ext_getElem?
 intro i;simp only [madeCells, Array.toList_map, Array.toList_range, List.getElem?_map, List.getElem?_replicate];by_cases h : i < n
 ·simp [h, Nat.mod_one]
 ·simp [h]
theorem owni_cap {B g cap : Nat} {w : World} {zs : List Int} (h : OwnI B w g cap zs) : zs.length ≤ cap ∧ cap ≤ maxLen := by
 rcases h.2 with ⟨a, _⟩ | ⟨g', b, i, a, c, j, f, d, rest⟩
 ·simp at a
 ·simp only [Value.slice.injEq, Option.some.injEq, Addr.mk.injEq, and_true, true_and] at a;obtain ⟨rfl, rfl⟩ := a;exact ⟨f, d⟩
theorem newRow_any (n : Nat) (w : World) (hn : n ≤ 16) : Calls Tryz.prog 203 #[nI n] w fun e w' => ∃ v, e = .returned v ∧ Made w w' v (List.replicate (n * 2) 0) := by
 have a := Go.run_make_row' (P := Tryz.prog) 204 2 (nI 0) 8 Tryz.underlying204 Tryz.infoI rfl .i64 .i64 (n * 2) (by omega) (by omega);have c : ((n * 2 : Nat) : Int) = (n : Int) * 2 := by omega
 simp only [c] at a;have M := made_lit w (madeCells #[nI 0] (n * 2)) (List.replicate (n * 2) 0) (made_zeroM _) (by unfold maxLen; simp; omega);rw [List.length_replicate] at M;have b : Hid _ := M;clear M;go_enter Tryz.func203, Tryz.ntmps203;go_wp2;go_ret
 exact ⟨_, rfl, b.out⟩
theorem cut_any (g n cap j : Nat) (w : World) (hj : j ≤ 16) (h : j * 2 + 2 ≤ cap) : Calls Tryz.prog 204 #[sL (some ⟨g, 0, none⟩) n cap, nI j] w fun e w' => e = .returned (sL (some ⟨g, j * 2, none⟩) 2 2) ∧ w' = w := by
 go_enter Tryz.func204, Tryz.ntmps204;go_wp2;go_ret
 refine ⟨?_, rfl⟩;have a : j * 2 + 2 - j * 2 = 2 := by omega
 rw [a];rfl
def pr (zs : List Int) (j : Nat) : List Int := [zs.getD (j * 2) 0, zs.getD (j * 2 + 1) 0]
def prs (zs : List Int) (n : Nat) : List (List Int) := (List.range n).map (pr zs)
theorem Tryz.sizeI : (Tryz.prog.info? 2).map (·.size) = some 1 := by kernel_rfl
theorem copied_two {B g cap : Nat} {w : World} {zs : List Int} (h : OwnI B w g cap zs) (o : Nat) (x y : Int) :
    OwnI B (w.setCells g o [nI x, nI y]) g cap ((zs.set o x).set (o + 1) y) ∧ w.grownBy (w.setCells g o [nI x, nI y]) (some g) := by
 have a := World.ownsRow.stored h o (nI x);have b := World.ownsRow.stored a.1 (o + 1) (nI y);refine ⟨?_, grown_trans a.2 b.2⟩;unfold OwnI;rw [List.length_set, List.length_set, List.map_set, List.map_set];exact b.1
theorem owni_at {B g cap : Nat} {w : World} {zs : List Int} (h : OwnI B w g cap zs) (i : Nat) (hi : i < zs.length) : w.cell? ⟨g, i, none⟩ = some (nI (zs.getD i 0)) := by
 rw [World.ownsRow.cellAt h i (by omega)];simp [List.getD_eq_getElem?_getD, hi]
theorem run_copy_two (w : World) (ty : TypeId) (b o : Nat) (B cap : Nat) (zs : List Int) (a : Addr) (dc sc : Nat) (x y : Int) (h : OwnI B w b cap zs) (ho : o + 2 ≤ zs.length)
    (h0 : w.cell? a = some (nI x)) (h1 : w.cell? (a.add 1) = some (nI y)) :
    (Builtin.copy_ #[59, 59] ty #[sL (some ⟨b, o, none⟩) 2 dc, sL (some a) 2 sc]).run Tryz.prog w = .ok (nI 2) (w.setCells b o [nI x, nI y]) := by
 refine run_copy_cells (P := Tryz.prog) w 59 59 ty 2 b o 2 dc a 2 sc [nI x, nI y] Tryz.underlying59 Tryz.sizeI rfl ?_ ?_ ?_ ?_
 ·intro j v c;match j, c with
  | 0, c => simp at c; subst c; rw [show a.add 0 = a from by simp [Addr.add]]; exact h0
  | 1, c => simp at c; subst c; exact h1
 ·intro j c;rw [owni_at h (o + j) (by simp at c; omega)];rfl
 ·intro j _;exact World.ownsRow.frozenAt h (o + j)
 ·intro v d;simp at d
  rcases d with rfl | rfl <;> rfl
theorem prs_len (zs : List Int) (n : Nat) : (prs zs n).length = n := by simp [prs]
theorem pr_set (zs : List Int) (k i : Nat) (x y : Int) (h : k * 2 + 1 < zs.length) : pr ((zs.set (k * 2) x).set (k * 2 + 1) y) i = if i = k then [x, y] else pr zs i := by
 unfold pr;by_cases e : i = k
 ·subst e;simp [List.getD_eq_getElem?_getD, show i * 2 < zs.length by omega, h]
 ·rw [if_neg e];have b : ¬ k * 2 = i * 2 := by omega
  have a : ¬ k * 2 + 1 = i * 2 := by omega
  have d : ¬ k * 2 = i * 2 + 1 := by omega
  have c : ¬ k * 2 + 1 = i * 2 + 1 := by omega
  rw [List.getD_eq_getElem?_getD, List.getD_eq_getElem?_getD, List.getElem?_set_ne a, List.getElem?_set_ne b, List.getElem?_set_ne c, List.getElem?_set_ne d, ← List.getD_eq_getElem?_getD, ← List.getD_eq_getElem?_getD]
theorem prs_get {zs : List Int} {n i : Nat} (h : i < n) : (prs zs n)[i]? = some (pr zs i) := by simp [prs, h]
def memOk (xss : List (List Int)) : Bool := betw xss.length 1 16 && xss.all isL
theorem memOk_not {xss : List (List Int)} {k : Nat} {xs : List Int} (hx : xss[k]? = some xs) (hn : isL xs = false) : memOk xss = false := by
 unfold memOk;rw [Bool.and_eq_false_iff];right
 rw [List.all_eq_false];exact ⟨xs, List.mem_of_getElem? hx, by simp [hn]⟩
theorem memOk_all {xss : List (List Int)} (hl : betw xss.length 1 16 = true) (h : ∀ (i : Nat) a, i < xss.length → xss[i]? = some a → isL a = true) : memOk xss = true := by
 unfold memOk;rw [hl, Bool.true_and, List.all_eq_true];intro a c;obtain ⟨i, b, rfl⟩ := List.mem_iff_getElem.1 c;exact h i _ b (List.getElem?_eq_getElem b)
theorem prs_all {xss : List (List Int)} {zs : List Int} (h : ∀ (i : Nat) a, i < xss.length → xss[i]? = some a → pr zs i = a) : prs zs xss.length = xss := by
 apply List.ext_getElem?
 intro i;by_cases b : i < xss.length
 ·obtain ⟨a, c⟩ := get_of_lt b;rw [prs_get b, c, h i a b c]
 ·rw [List.getElem?_eq_none (by rw [prs_len]; omega), List.getElem?_eq_none (by omega)]
theorem rowOf_any (a : Option Addr) (xss : List (List Int)) (cap : Nat) (w : World) (h : ReadsM w a xss) (hm : xss.length ≤ 9223372036854775807) :
    Calls Tryz.prog 171 #[sL a xss.length cap] w fun e o => ∃ v, e = .returned (.tuple #[v, .bool (memOk xss)]) ∧ Bl w o ∧
     (memOk xss = true → ∃ f, f.length = xss.length * 2 ∧ prs f xss.length = xss ∧ Made w o v f) := by
 cases J : betw xss.length 1 16
 ·have A : memOk xss = false := by unfold memOk; rw [J]; rfl
  rw [A];go_enter Tryz.func171, Tryz.ntmps171;go_wp2_with (go_at_call 129; refine (linesOk_any _ _).mono ?_; rintro e o ⟨rfl, rfl⟩)
  go_ret2
  exact ⟨_, rfl, (Below.refl _ _).alloc (Nat.le_refl _) _, fun h => by cases h⟩
 ·have I : 1 ≤ xss.length ∧ xss.length ≤ 16 := by simp [betw] at J; omega
  go_enter Tryz.func171, Tryz.ntmps171;go_wp2_with (go_at_call 129; refine (linesOk_any _ _).mono ?_; rintro e o ⟨rfl, m⟩; rw [m]; clear m o)
  refine (newRow_any _ _ I.2).mono ?_;rintro e w1 ⟨v, rfl, g, c, rfl, T, N, o1, S⟩;go_wp2_with fail
  go_loopw [18] (fun i wr => ∃ k : Nat, k ≤ xss.length ∧ i = nI k ∧ ∃ f : List Int, f.length = xss.length * 2 ∧ (∀ (i : Nat) d, i < k → xss[i]? = some d → pr f i = d ∧ isL d = true) ∧ OwnI w.heap.size wr g c f ∧ Bl w wr)
   (fun i _ => xss.length - (intOf i).toNat)
  case atStart => exact ⟨0, Nat.zero_le _, rfl, _, by simp, fun i d r => absurd r (Nat.not_lt_zero _), o1, S⟩
  case round =>
   obtain ⟨k, hk, rfl, f, E, l, z, s⟩ := hrel;clear o1 S N;by_cases K : k < xss.length
   ·have U : (k : Int) < (xss.length : Int) := by omega
    obtain ⟨d, n⟩ := get_of_lt K;obtain ⟨b, iA, aj, cj, rfl, g1, hr⟩ := readsM_at (readsM_below h s) n;have H : Hid (Reads wr aj d) := hr;have O : Hid (xss[k]? = some d) := n;have V : Hid _ := l;have q : Hid (f.length = xss.length * 2) := E;clear h hr n l E;go_wp2_with fail
    refine (implLineOk_any _ d _ _ H.out).mono ?_;rintro e w2 ⟨rfl, C⟩;have F := below_step s C;rcases isL_cases d with Y | ⟨x, y, rfl, n, hy⟩
    ·rw [Y];have A := memOk_not O.out Y;clear O V H z s C;go_wp2;rw [A];go_ret2
     exact ⟨_, rfl, F.alloc F.size _, fun h => by cases h⟩
    ·have D := isL_yes n hy;rw [D];have G := owni_below z C (owni_lt z).2;have Z := reads_below H.out C;obtain ⟨b', B, rfl, X, q2⟩ := reads_two Z;have CP := run_copy_two w2 3 g (k * 2) w.heap.size c f ⟨b', B, none⟩ 2 cj x y G (by have := q.out; omega) X (by simpa [Addr.add] using q2);have L : Hid _ := copied_two G (k * 2) x y;have R : k * 2 + 2 ≤ c := by have := (owni_cap G).1; have := q.out; omega
     clear H z s C Z X q2 G;generalize hW : w2.setCells g (k * 2) [nI x, nI y] = W at CP L;clear hW;go_wp2_with (go_at_call 204; refine (cut_any _ _ _ _ _ (by omega) R).mono ?_; rintro e o ⟨rfl, m⟩; rw [m]; clear m o)
     go_roundw
     case rel =>
      refine ⟨k + 1, by omega, by go_num, (f.set (k * 2) x).set (k * 2 + 1) y, by have := q.out; simpa using this, ?_, L.out.1, F.grown L.out.2 F.size (by intro j hj; cases hj; exact T)⟩;intro i d r p;rw [pr_set f k i x y (by have := q.out; omega)];by_cases e : i = k
      ·subst e;rw [O.out] at p;cases p;exact ⟨if_pos rfl, D⟩
      ·rw [if_neg e];exact V.out i d (by omega) p
     case measure => simp [intOf]; omega
   ·have M : k = xss.length := by omega
    subst M;have A := memOk_all J (fun i d r n => (l i d r n).2);have HP : Hid _ := prs_all (fun i d r n => (l i d r n).1);have q : Hid (f.length = xss.length * 2) := E;clear E;go_wp2;rw [A];go_ret2
    exact ⟨_, rfl, s, fun _ => ⟨f, q.out, HP.out, g, c, by rw [q.out]; rfl, T, (owni_lt z).2, z, s⟩⟩
theorem implMemoryOk_any (a : Option Addr) (xss : List (List Int)) (cap : Nat) (w : World) (h : ReadsM w a xss) (hm : xss.length ≤ 9223372036854775807) :
    Calls Tryz.prog 130 #[sL a xss.length cap] w fun e w' => e = .returned (.bool (memOk xss)) ∧ Bl w w' := by
 go_enter Tryz.func130, Tryz.ntmps130;go_wp2_with fail
 refine (rowOf_any _ xss _ _ h hm).mono ?_;rintro e w1 ⟨v, rfl, b, _⟩;go_wp2;go_ret
 exact ⟨rfl, b⟩
theorem specMemoryOk_any (a : Option Addr) (xss : List (List Int)) (cap : Nat) (w : World) (h : ReadsM w a xss) (hm : xss.length ≤ 2305843009213693952) :
    Calls Tryz.prog 76 #[sL a xss.length cap] w fun e g => e = .returned (.bool (memOk xss)) ∧ g = w := by
 go_enter Tryz.func76, Tryz.ntmps76;go_wp2;go_loop [3] (fun i => ∃ k : Nat, k ≤ xss.length ∧ i = nI k ∧ ∀ (i : Nat) f, i < k → xss[i]? = some f → isL f = true) (fun i => xss.length - (intOf i).toNat)
 case atStart => exact ⟨0, Nat.zero_le _, rfl, fun i f hi => absurd hi (Nat.not_lt_zero _)⟩
 case round =>
  obtain ⟨k, hk, rfl, c⟩ := hrel;by_cases l : k < xss.length
  ·have o : (k : Int) < (xss.length : Int) := by omega
   obtain ⟨f, m⟩ := get_of_lt l;obtain ⟨b, z, B, cj, rfl, g1, v⟩ := readsM_at h m;have r : Hid (Reads w B f) := v;have s : Hid (xss[k]? = some f) := m;have y : Hid _ := c;clear h v m c;cases j : isL f
   ·have q := memOk_not s.out j;go_wp2_with (go_at_call 79; refine (specLineOk_any _ f _ _ r.out).mono ?_; rintro e g ⟨rfl, d⟩; rw [d, j]; clear d g)
    go_ret
    exact ⟨ret_bool (by first | rfl | exact q.symm | simp [q]), rfl⟩
   ·go_wp2_with (go_at_call 79; refine (specLineOk_any _ f _ _ r.out).mono ?_; rintro e g ⟨rfl, d⟩; rw [d, j]; clear d g)
    go_round
    case rel =>
     refine ⟨k + 1, by omega, by go_num, fun i ys hi hy => ?_⟩;by_cases e : i = k
     ·subst e;rw [s.out] at hy;cases hy;exact j
     ·exact y.out i ys (by omega) hy
    case measure => simp [intOf]; omega
  ·have n : k = xss.length := by omega
   subst n;have A : Hid (betw (xss.length : Int) 1 16 = memOk xss) := by
    unfold Hid;cases p : betw (xss.length : Int) 1 16
    ·unfold memOk; rw [p]; rfl
    ·exact (memOk_all p c).symm
   clear c;go_wp2_with (go_at_call 74; refine (l1In_any _ _ _ _).mono ?_; rintro e g ⟨rfl, rfl⟩)
   go_ret
   exact ⟨ret_bool A.out, rfl⟩
set_option linter.unusedVariables false
def houseB (x : HouseD) : Bool := memOk x.1 && (decide (x.2.length = x.1.length) && x.2.all entB)
theorem house_len {x : HouseD} (h : houseM.bk x ≤ 1048576) : x.1.length ≤ 1048576 ∧ x.2.length ≤ 1048576 := by
 have e : houseM.bk x = (x.1.length + sumbk intsM x.1) + (x.2.length + sumbk entM x.2) := rfl;omega
theorem ent_at {w : World} {a : Option Addr} {xs : List EntryD} {k : Nat} {x : EntryD} (h : SlRd entR w a xs) (hx : xs[k]? = some x) :
    ∃ b d f i, a = some ⟨b, d, none⟩ ∧ w.cell? ⟨b, d + k * 8, none⟩ = some (nI x.1) ∧ w.cell? ⟨b, d + k * 8 + 1, none⟩ = some (nI x.2.1) ∧ w.cell? ⟨b, d + k * 8 + 2, none⟩ = some (.bool x.2.2.1) ∧ w.cell? ⟨b, d + k * 8 + 3, none⟩ = some (nI x.2.2.2.1) ∧ w.cell? ⟨b, d + k * 8 + 4, none⟩ = some (nI x.2.2.2.2.1) ∧ w.cell? ⟨b, d + k * 8 + 5, none⟩ = some (nI x.2.2.2.2.2.1) ∧ w.cell? ⟨b, d + k * 8 + 6, none⟩ = some (nI x.2.2.2.2.2.2.1) ∧ w.cell? ⟨b, d + k * 8 + 7, none⟩ = some (sL f x.2.2.2.2.2.2.2.length i) ∧ SlRd intR w f x.2.2.2.2.2.2.2 := by
 obtain ⟨b, d, cs, rfl, g, c⟩ := slrd_at h hx;obtain ⟨f, i, rfl, -, -, -, -, -, -, -, -, j⟩ := ent_rd g;exact ⟨b, d, f, i, rfl, c 0 _ rfl, c 1 _ rfl, c 2 _ rfl, c 3 _ rfl, c 4 _ rfl, c 5 _ rfl, c 6 _ rfl, c 7 _ rfl, j⟩
theorem bookOk1_any (x : EntryD) (ad : Option Addr) (cp : Nat) (w : World) (h : SlRd intR w ad x.2.2.2.2.2.2.2) :
    Calls Tryz.prog 172 #[.agg #[nI x.1, nI x.2.1, .bool x.2.2.1, nI x.2.2.2.1, nI x.2.2.2.2.1, nI x.2.2.2.2.2.1, nI x.2.2.2.2.2.2.1, sL ad x.2.2.2.2.2.2.2.length cp]] w fun e w' => e = .returned (.bool (!entB x)) ∧ Bl w w' := by
 have B := box_below w (.cells #[nI x.1, nI x.2.1, .bool x.2.2.1, nI x.2.2.2.1, nI x.2.2.2.2.1, nI x.2.2.2.2.2.1, nI x.2.2.2.2.2.2.1, sL ad x.2.2.2.2.2.2.2.length cp] 116);have a : Hid _ := fun (W : World) (hb : Bl w W) => implEntryOk_any x.1 x.2.1 x.2.2.2.1 x.2.2.2.2.1 x.2.2.2.2.2.1 x.2.2.2.2.2.2.1 x.2.2.1 x.2.2.2.2.2.2.2 ad cp W (slrd_next h hb);generalize entB x = q at a ⊢;clear h;go_enter Tryz.func172, Tryz.ntmps172;go_wp2_with fail
 generalize w.alloc (.cells #[nI x.1, nI x.2.1, .bool x.2.2.1, nI x.2.2.2.1, nI x.2.2.2.2.1, nI x.2.2.2.2.2.1, nI x.2.2.2.2.2.2.1, sL ad x.2.2.2.2.2.2.2.length cp] 116) = W0 at B ⊢;refine (a.out _ B).mono ?_;rintro e w1 ⟨rfl, b⟩;go_wp2;go_ret
 exact ⟨rfl, below_step B b⟩
theorem indexBadE_any (a : Option Addr) (xs : List EntryD) (cap : Nat) (w : World) (h : SlRd entR w a xs) (hm : xs.length ≤ maxLen) :
    Calls Tryz.prog 174 #[sL a xs.length cap, .func (.func 172) #[] #[]] w fun e w' => e = .returned (nI (badP entB xs)) ∧ Bl w w' := by
 have K : xs.length ≤ 9223372036854775807 := hm;have M : Hid (∀ W, Bl w W → SlRd entR W a xs) := fun W f => slrd_keep h fun k B => f.block k B;clear h hm;go_enter Tryz.func174, Tryz.ntmps174;go_wp2;go_loopw [8] (fun i wr => ∃ k : Nat, k ≤ xs.length ∧ i = nI k ∧ (∀ j v, j < k → xs[j]? = some v → entB v = true) ∧ Bl w wr) (fun i _ => xs.length - (intOf i).toNat)
 case atStart => exact ⟨0, Nat.zero_le _, rfl, fun j v hj => by omega, Below.refl _ _⟩
 case round =>
  obtain ⟨k, B, rfl, d, c⟩ := hrel;by_cases m : k < xs.length
  ·have s : (k : Int) < (xs.length : Int) := by omega
   obtain ⟨x, n⟩ : ∃ x, xs[k]? = some x := ⟨_, List.getElem?_eq_getElem m⟩;obtain ⟨b, I, J, G, rfl, D, q, E, p, y, r, C, z, A⟩ := ent_at (M.out _ c) n;have l := bookOk1_any x J G wr A;clear A;have F : Hid (xs[k]? = some x) := n;clear n;cases f : entB x
   ·have o : Hid (badP entB xs = k) := badP_at F.out f d;rw [f] at l;go_wp2_with fail
    refine l.mono ?_;rintro e L ⟨rfl, g⟩;replace c := below_step c g;clear g D q E p y r C z;go_wp2;go_ret
    exact ⟨ret_int o.out.symm, c⟩
   ·rw [f] at l;go_wp2_with fail
    refine l.mono ?_;rintro e L ⟨rfl, g⟩;replace c := below_step c g;clear g D q E p y r C z;go_wp2;go_roundw
    case rel =>
     refine ⟨k + 1, by omega, by go_num, fun j v hj hv => ?_, c⟩;by_cases H : j < k
     ·exact d j v H hv
     ·have : j = k := by omega
      subst this;rw [F.out] at hv;cases hv;exact f
    case measure => simp [intOf]; omega
  ·have o : Hid (badP entB xs = -1) := badP_no fun j v hv => d j v (by have := (List.getElem?_eq_some_iff.1 hv).1; omega) hv;go_wp2;go_ret
   exact ⟨ret_int o.out.symm, c⟩
theorem containsBadE_any (a : Option Addr) (xs : List EntryD) (cap : Nat) (w : World) (h : SlRd entR w a xs) (hm : xs.length ≤ maxLen) :
    Calls Tryz.prog 132 #[sL a xs.length cap, .func (.func 172) #[] #[]] w fun e w' => e = .returned (.bool (!xs.all entB)) ∧ Bl w w' := by
 have f := indexBadE_any a xs cap w h hm;have b := badP_all entB xs;clear h hm;generalize badP entB xs = q at f b;generalize xs.all entB = y at b ⊢;subst b;by_cases g : q < 0
 ·have c : ¬ (0 ≤ q) := by omega
  go_enter Tryz.func132, Tryz.ntmps132;go_wp2_with fail
  refine f.mono ?_;rintro e i ⟨rfl, d⟩;go_wp2;go_ret
  exact ⟨by simp [g], d⟩
 ·have c : 0 ≤ q := by omega
  go_enter Tryz.func132, Tryz.ntmps132;go_wp2_with fail
  refine f.mono ?_;rintro e i ⟨rfl, d⟩;go_wp2;go_ret
  exact ⟨by simp [g], d⟩
theorem implBookOk_any (a : Option Addr) (xs : List EntryD) (cap : Nat) (w : World) (h : SlRd entR w a xs) (hm : xs.length ≤ maxLen) :
    Calls Tryz.prog 131 #[sL a xs.length cap] w fun e w' => e = .returned (.bool (xs.all entB)) ∧ Bl w w' := by
 have b := containsBadE_any a xs cap w h hm;generalize xs.all entB = y at b ⊢;clear h hm;go_enter Tryz.func131, Tryz.ntmps131;go_wp2_with fail
 refine b.mono ?_;rintro e w1 ⟨rfl, c⟩;go_wp2;go_ret
 exact ⟨by simp, c⟩
theorem implHouseOk_u (cs : List Value) (x : HouseD) (w : World) (h : houseR.rd w cs x) :
    Calls Tryz.prog 95 #[aggV cs] w fun e w' => e = .returned (.bool (houseB x)) ∧ Bl w w' := by
 obtain ⟨v0, v1, rfl, ⟨f, b, z, g, l, v⟩, ⟨d, c, A, j, k, p⟩⟩ := house_rd h;simp only [List.cons.injEq, and_true] at z A;obtain rfl := z;obtain rfl := A;clear h;change Calls Tryz.prog 95 #[.agg #[sL f x.1.length b, sL d x.2.length c]] w _
 have o : Hid _ := fun (W : World) (hb : Bl w W) => implMemoryOk_any f x.1 b W (readsM_of (slrd_next v hb)) (Nat.le_trans g l);have y : Hid _ := fun (W : World) (hb : Bl w W) => implBookOk_any d x.2 c W (slrd_next p hb) (Nat.le_trans j k);have E : x.1.length ≤ 9223372036854775807 := Nat.le_trans g l;have D : x.2.length ≤ 9223372036854775807 := Nat.le_trans j k;clear v p g l j k;have X := heap_at w (.cells #[sL f x.1.length b, sL d x.2.length c] 41);have B := box_below w (.cells #[sL f x.1.length b, sL d x.2.length c] 41);unfold houseB;generalize memOk x.1 = q at o ⊢;generalize x.2.all entB = r at y ⊢;generalize x.1.length = n at *;generalize x.2.length = m at *;go_enter Tryz.func95, Tryz.ntmps95;go_wp2_with fail
 generalize w.alloc (.cells #[sL f n b, sL d m c] 41) = W0 at X B ⊢;refine (o.out _ B).mono ?_;rintro e w1 ⟨rfl, a⟩;replace X := row_keep a X;replace B := below_step B a;clear a;obtain ⟨F, C⟩ := cells_house X;cases q
 ·clear X;go_wp2;go_ret
  exact ⟨rfl, B⟩
 ·by_cases s : m = n
  ·subst s;have i : ((m : Int) == (m : Int)) = true := by simp
   go_wp2_with fail
   refine (y.out _ B).mono ?_;rintro e w2 ⟨rfl, a⟩;replace B := below_step B a;clear a X F C;go_wp2;go_ret
   exact ⟨by simp, B⟩
  ·have i : ((m : Int) == (n : Int)) = false := by simp; omega
   clear X;go_wp2;go_ret
   exact ⟨by simp [s], B⟩
theorem specHouseOk_u (cs : List Value) (x : HouseD) (w : World) (h : houseR.rd w cs x) (N : houseM.bk x ≤ 1048576) :
    Calls Tryz.prog 38 #[aggV cs] w fun e w' => e = .returned (.bool (houseB x)) ∧ Bl w w' := by
 obtain ⟨v0, v1, rfl, ⟨f, d, e0, l1, l2, q0⟩, ⟨l, p, H, m1, m2, Z⟩⟩ := house_rd h;simp only [List.cons.injEq, and_true] at e0 H;obtain rfl := e0;obtain rfl := H;clear h;obtain ⟨O, pA⟩ := house_len N;change Calls Tryz.prog 38 #[.agg #[sL f x.1.length d, sL l x.2.length p]] w _
 have s : Hid (∀ W, Bl w W → Calls Tryz.prog 76 #[sL f x.1.length d] W fun e w' => e = .returned (.bool (memOk x.1)) ∧ Bl W w') := fun W g => (specMemoryOk_any f x.1 d W (readsM_of (slrd_next q0 g)) (by omega)).mono fun e w' ⟨q, r⟩ => ⟨q, be_eq r⟩;have HE : Hid (∀ W, Bl w W → SlRd entR W l x.2) := fun W g => slrd_next Z g;clear q0 Z l1 l2 m1 m2 N;have X := heap_at w (.cells #[sL f x.1.length d, sL l x.2.length p] 41);have B := box_below w (.cells #[sL f x.1.length d, sL l x.2.length p] 41);have M : Hid (memOk x.1 = false → houseB x = false) := fun e => by unfold houseB; rw [e]; rfl
 have R : Hid (¬ x.2.length = x.1.length → houseB x = false) := fun e => by unfold houseB; simp [e]
 have HB : Hid (∀ j u, x.2[j]? = some u → entB u = false → houseB x = false) := fun j u hu e => by
  have : x.2.all entB = false := by
   cases hh : x.2.all entB
   ·rfl
   ·rw [List.all_eq_true] at hh;rw [hh u (List.mem_of_getElem? hu)] at e;cases e
  unfold houseB;simp [this]
 have S : Hid (memOk x.1 = true → x.2.length = x.1.length → (∀ j u, x.2[j]? = some u → entB u = true) → houseB x = true) := fun H e2 e3 => by
  have : x.2.all entB = true := List.all_eq_true.2 fun u hu => by
   obtain ⟨j, K⟩ := List.getElem?_of_mem hu;exact e3 j u K
  unfold houseB;simp [H, e2, this]
 cases a : memOk x.1
 ·rw [M.out a];rw [a] at s;generalize x.1.length = n at *;generalize x.2.length = m at *;go_enter Tryz.func38, Tryz.ntmps38;go_wp2_with fail
  generalize w.alloc (.cells #[sL f n d, sL l m p] 41) = W0 at X B ⊢;refine (s.out _ B).mono ?_;rintro e w1 ⟨rfl, c⟩;replace B := below_step B c;clear c X;go_wp2;go_ret
  exact ⟨rfl, B⟩
 by_cases z : x.2.length = x.1.length
 ·rw [a] at s;have I : Hid ((∀ j u, x.2[j]? = some u → entB u = true) → houseB x = true) := S.out a z;rw [← z] at s X B ⊢;clear S M R a O z;go_enter Tryz.func38, Tryz.ntmps38;go_wp2_with fail
  generalize w.alloc (.cells #[sL f x.2.length d, sL l x.2.length p] 41) = W0 at X B ⊢;refine (s.out _ B).mono ?_;rintro e w1 ⟨rfl, c⟩;replace X := row_keep c X;replace B := below_step B c;clear c;obtain ⟨G, C⟩ := cells_house X;go_wp2;clear G C;go_loopw [3] (fun i wr => ∃ k : Nat, k ≤ x.2.length ∧ i = nI k ∧ (∀ j v, j < k → x.2[j]? = some v → entB v = true) ∧ Bl w wr ∧ wr.heap[w.heap.size]? = some (.cells #[sL f x.2.length d, sL l x.2.length p] 41 (0, 0))) (fun i _ => x.2.length - (intOf i).toNat)
  case atStart => exact ⟨0, Nat.zero_le _, rfl, fun j v K => by omega, B, X⟩
  case round =>
   obtain ⟨k, N, rfl, D, o, E⟩ := hrel;obtain ⟨G, C⟩ := cells_house E;by_cases J : k < x.2.length
   ·have Y : (k : Int) < (x.2.length : Int) := by omega
    obtain ⟨y, L⟩ : ∃ y, x.2[k]? = some y := ⟨_, List.getElem?_eq_getElem J⟩;obtain ⟨b, vA, ad, cp, rfl, z0, U, V, z3, z4, z5, z6, T, hd⟩ := ent_at (HE.out _ o) L;have F := specEntryOk_any y.1 y.2.1 y.2.2.2.1 y.2.2.2.2.1 y.2.2.2.2.2.1 y.2.2.2.2.2.2.1 y.2.2.1 y.2.2.2.2.2.2.2 ad cp wr hd;rw [show entB (y.1, y.2.1, y.2.2.1, y.2.2.2.1, y.2.2.2.2.1, y.2.2.2.2.2.1, y.2.2.2.2.2.2.1, y.2.2.2.2.2.2.2) = entB y from rfl] at F;have HX : Hid (x.2[k]? = some y) := L;clear L hd;cases g : entB y
    ·rw [g] at F;go_wp2_with fail
     refine F.mono ?_;rintro e w2 ⟨rfl, A⟩;replace o := below_step o A;clear A z0 U V z3 z4 z5 z6 T G C E X B;go_wp2;go_ret
     exact ⟨ret_bool (HB.out k y HX.out g).symm, o⟩
    ·rw [g] at F;go_wp2_with fail
     refine F.mono ?_;rintro e w2 ⟨rfl, A⟩;replace o := below_step o A;replace E := row_keep A E;clear A z0 U V z3 z4 z5 z6 T G C X B;go_wp2;go_roundw
     case rel =>
      refine ⟨k + 1, by omega, by go_num, fun j v K hv => ?_, o, E⟩;by_cases z : j < k
      ·exact D j v z hv
      ·have : j = k := by omega
       subst this;rw [HX.out] at hv;cases hv;exact g
     case measure => simp [intOf]; omega
   ·have HR : Hid (houseB x = true) := I.out fun j v hv => D j v (by have := (List.getElem?_eq_some_iff.1 hv).1; omega) hv;go_wp2;go_ret
    exact ⟨ret_bool HR.out.symm, o⟩
 ·rw [R.out z];rw [a] at s;have rA : ¬ ((x.2.length : Int) = (x.1.length : Int)) := by omega
  have BA : ((x.2.length : Int) != (x.1.length : Int)) = true := by simp; omega
  clear S M R HB HE a z;generalize x.1.length = n at *;generalize x.2.length = m at *;go_enter Tryz.func38, Tryz.ntmps38;go_wp2_with fail
  generalize w.alloc (.cells #[sL f n d, sL l m p] 41) = W0 at X B ⊢;refine (s.out _ B).mono ?_;rintro e w1 ⟨rfl, c⟩;replace X := row_keep c X;replace B := below_step B c;clear c;obtain ⟨G, C⟩ := cells_house X;clear X;go_wp2;go_ret
  exact ⟨rfl, B⟩
end Go.Proofs.YtglejdilghcbaaaGreatDoor
