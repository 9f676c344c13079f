import Derived.Test.YtdamokokcdcedaaGreatDoorE00Box
import Derived.Laws.IdiomCopy
import Derived.Laws.Slices
import Derived.Test.YtdamokokcdcedaaGreatDoorE27
import Derived.Test.YtdamokokcdcedaaGreatDoorE25
namespace Go.Proofs.YtdamokokcdcedaaGreatDoor
set_option maxHeartbeats 4000000
open Go.ChangeShapes Go.WideShapes Go.ChangeAt Go.RowKit
theorem made_zeroM (n : Nat) : (madeCells #[nI 0] n).toList = (List.replicate n (0 : Int)).map (Value.int .i64) := by
 apply List.ext_getElem?
 intro i;simp only [madeCells, Array.toList_map, Array.toList_range, List.getElem?_map, List.getElem?_replicate];by_cases h : i < n
 ·simp [h, Nat.mod_one]
 ·simp [h]
theorem owni_cap {B g cap : Nat} {w : World} {zs : List Int} (h : OwnI B w g cap zs) : zs.length ≤ cap ∧ cap ≤ maxLen := by
 rcases h.2 with ⟨a, _⟩ | ⟨g', b, f, a, j, d, i, c, rest⟩
 ·simp at a
 ·simp only [Value.slice.injEq, Option.some.injEq, Addr.mk.injEq, and_true, true_and] at a;obtain ⟨rfl, rfl⟩ := a;exact ⟨i, c⟩
theorem newRow_any (n : Nat) (w : World) (hn : n ≤ 16) : Calls Tryz.prog 90 #[nI n] w fun e w' => ∃ v, e = .returned v ∧ Made w w' v (List.replicate (n * 2) 0) := by
 have a := Go.run_make_row' (P := Tryz.prog) 69 2 (nI 0) 8 Tryz.underlying69 Tryz.infoI rfl .i64 .i64 (n * 2) (by omega) (by omega);have c : ((n * 2 : Nat) : Int) = (n : Int) * 2 := by omega
 simp only [c] at a;have M := made_lit w (madeCells #[nI 0] (n * 2)) (List.replicate (n * 2) 0) (made_zeroM _) (by unfold maxLen; simp; omega);rw [List.length_replicate] at M;have b : Hid _ := M;clear M;go_enter Tryz.func90, Tryz.ntmps90;go_wp2;go_ret
 exact ⟨_, rfl, b.out⟩
theorem cut_any (g n cap j : Nat) (w : World) (hj : j ≤ 16) (h : j * 2 + 2 ≤ cap) : Calls Tryz.prog 92 #[sL (some ⟨g, 0, none⟩) n cap, nI j] w fun e w' => e = .returned (sL (some ⟨g, j * 2, none⟩) 2 2) ∧ w' = w := by
 go_enter Tryz.func92, Tryz.ntmps92;go_wp2;go_ret
 refine ⟨?_, rfl⟩;have a : j * 2 + 2 - j * 2 = 2 := by omega
 rw [a];rfl
def pr (zs : List Int) (j : Nat) : List Int := [zs.getD (j * 2) 0, zs.getD (j * 2 + 1) 0]
def prs (zs : List Int) (n : Nat) : List (List Int) := (List.range n).map (pr zs)
theorem Tryz.sizeI : (Tryz.prog.info? 2).map (·.size) = some 1 := by kernel_rfl
theorem copied_two {B g cap : Nat} {w : World} {zs : List Int} (h : OwnI B w g cap zs) (o : Nat) (x y : Int) :
    OwnI B (w.setCells g o [nI x, nI y]) g cap ((zs.set o x).set (o + 1) y) ∧ w.grownBy (w.setCells g o [nI x, nI y]) (some g) := by
 have a := World.ownsRow.stored h o (nI x);have b := World.ownsRow.stored a.1 (o + 1) (nI y);refine ⟨?_, grown_trans a.2 b.2⟩;unfold OwnI;rw [List.length_set, List.length_set, List.map_set, List.map_set];exact b.1
theorem owni_at {B g cap : Nat} {w : World} {zs : List Int} (h : OwnI B w g cap zs) (i : Nat) (hi : i < zs.length) : w.cell? ⟨g, i, none⟩ = some (nI (zs.getD i 0)) := by
 rw [World.ownsRow.cellAt h i (by omega)];simp [List.getD_eq_getElem?_getD, hi]
theorem run_copy_two (w : World) (ty : TypeId) (b o : Nat) (B cap : Nat) (zs : List Int) (a : Addr) (dc sc : Nat) (x y : Int) (h : OwnI B w b cap zs) (ho : o + 2 ≤ zs.length)
    (h0 : w.cell? a = some (nI x)) (h1 : w.cell? (a.add 1) = some (nI y)) :
    (Builtin.copy_ #[68, 68] ty #[sL (some ⟨b, o, none⟩) 2 dc, sL (some a) 2 sc]).run Tryz.prog w = .ok (nI 2) (w.setCells b o [nI x, nI y]) := by
 refine run_copy_cells (P := Tryz.prog) w 68 68 ty 2 b o 2 dc a 2 sc [nI x, nI y] Tryz.underlying68 Tryz.sizeI rfl ?_ ?_ ?_ ?_
 ·intro j v c;match j, c with
  | 0, c => simp at c; subst c; rw [show a.add 0 = a from by simp [Addr.add]]; exact h0
  | 1, c => simp at c; subst c; exact h1
 ·intro j c;rw [owni_at h (o + j) (by simp at c; omega)];rfl
 ·intro j _;exact World.ownsRow.frozenAt h (o + j)
 ·intro v d;simp at d
  rcases d with rfl | rfl <;> rfl
theorem prs_len (zs : List Int) (n : Nat) : (prs zs n).length = n := by simp [prs]
theorem pr_set (zs : List Int) (k i : Nat) (x y : Int) (h : k * 2 + 1 < zs.length) : pr ((zs.set (k * 2) x).set (k * 2 + 1) y) i = if i = k then [x, y] else pr zs i := by
 unfold pr;by_cases e : i = k
 ·subst e;simp [List.getD_eq_getElem?_getD, show i * 2 < zs.length by omega, h]
 ·rw [if_neg e];have d : ¬ k * 2 = i * 2 := by omega
  have b : ¬ k * 2 + 1 = i * 2 := by omega
  have c : ¬ k * 2 = i * 2 + 1 := by omega
  have a : ¬ k * 2 + 1 = i * 2 + 1 := by omega
  rw [List.getD_eq_getElem?_getD, List.getD_eq_getElem?_getD, List.getElem?_set_ne b, List.getElem?_set_ne d, List.getElem?_set_ne a, List.getElem?_set_ne c, ← List.getD_eq_getElem?_getD, ← List.getD_eq_getElem?_getD]
theorem prs_get {zs : List Int} {n i : Nat} (h : i < n) : (prs zs n)[i]? = some (pr zs i) := by simp [prs, h]
theorem grown_of_below {w w' : World} (h : Bl w w') (r : Option Nat) : w.grownBy w' r := ⟨h.os, h.tape, h.output, h.size, fun k hk _ => h.block k hk⟩
def memOk (xss : List (List Int)) : Bool := betw xss.length 1 16 && xss.all isL
theorem memOk_not {xss : List (List Int)} {k : Nat} {xs : List Int} (hx : xss[k]? = some xs) (hn : isL xs = false) : memOk xss = false := by
 unfold memOk;rw [Bool.and_eq_false_iff];right
 rw [List.all_eq_false];exact ⟨xs, List.mem_of_getElem? hx, by simp [hn]⟩
theorem memOk_all {xss : List (List Int)} (hl : betw xss.length 1 16 = true) (h : ∀ (i : Nat) a, i < xss.length → xss[i]? = some a → isL a = true) : memOk xss = true := by
 unfold memOk;rw [hl, Bool.true_and, List.all_eq_true];intro a c;obtain ⟨i, b, rfl⟩ := List.mem_iff_getElem.1 c;exact h i _ b (List.getElem?_eq_getElem b)
theorem prs_all {xss : List (List Int)} {zs : List Int} (h : ∀ (i : Nat) a, i < xss.length → xss[i]? = some a → pr zs i = a) : prs zs xss.length = xss := by
 apply List.ext_getElem?
 intro i;by_cases b : i < xss.length
 ·obtain ⟨a, c⟩ := get_of_lt b;rw [prs_get b, c, h i a b c]
 ·rw [List.getElem?_eq_none (by rw [prs_len]; omega), List.getElem?_eq_none (by omega)]
theorem rowOf_any (a : Option Addr) (xss : List (List Int)) (cap : Nat) (w : World) (h : ReadsM w a xss) (hm : xss.length ≤ 9223372036854775807) :
    Calls Tryz.prog 33 #[sL a xss.length cap] w fun e o => ∃ v, e = .returned (.tuple #[v, .bool (memOk xss)]) ∧ Bl w o ∧
     (memOk xss = true → ∃ f, f.length = xss.length * 2 ∧ prs f xss.length = xss ∧ Made w o v f) := by
 cases I : betw xss.length 1 16
 ·have A : memOk xss = false := by unfold memOk; rw [I]; rfl
  rw [A];go_enter Tryz.func33, Tryz.ntmps33;go_wp2_with (go_at_call 89; refine (linesOk_any _ _).mono ?_; rintro e o ⟨rfl, rfl⟩)
  go_ret2
  exact ⟨_, rfl, (Below.refl _ _).alloc (Nat.le_refl _) _, fun h => by cases h⟩
 ·have N : 1 ≤ xss.length ∧ xss.length ≤ 16 := by simp [betw] at I; omega
  go_enter Tryz.func33, Tryz.ntmps33;go_wp2_with (go_at_call 89; refine (linesOk_any _ _).mono ?_; rintro e o ⟨rfl, m⟩; rw [m]; clear m o)
  refine (newRow_any _ _ N.2).mono ?_;rintro e w1 ⟨v, rfl, g, c, rfl, l1, L, o1, Y⟩;go_wp2_with fail
  go_loopw [18] (fun i wr => ∃ k : Nat, k ≤ xss.length ∧ i = nI k ∧ ∃ f : List Int, f.length = xss.length * 2 ∧ (∀ (i : Nat) d, i < k → xss[i]? = some d → pr f i = d ∧ isL d = true) ∧ OwnI w.heap.size wr g c f ∧ Bl w wr)
   (fun i _ => xss.length - (intOf i).toNat)
  case atStart => exact ⟨0, Nat.zero_le _, rfl, _, by simp, fun i d r => absurd r (Nat.not_lt_zero _), o1, Y⟩
  case round =>
   obtain ⟨k, hk, rfl, f, G, l, z, s⟩ := hrel;clear o1 Y L;by_cases R : k < xss.length
   ·have Z : (k : Int) < (xss.length : Int) := by omega
    obtain ⟨d, n⟩ := get_of_lt R;obtain ⟨b, iA, aj, cj, rfl, g1, X⟩ := readsM_at (readsM_below h s) n;have F : Hid (Reads wr aj d) := X;have J : Hid (xss[k]? = some d) := n;have U : Hid _ := l;have p : Hid (f.length = xss.length * 2) := G;clear h X n l G;go_wp2_with fail
    refine (implLineOk_any _ d _ _ F.out).mono ?_;rintro e V ⟨rfl, B⟩;have E := below_step s B;rcases isL_cases d with T | ⟨x, y, rfl, n, hy⟩
    ·rw [T];have A := memOk_not J.out T;clear J U F z s B;go_wp2;rw [A];go_ret2
     exact ⟨_, rfl, E.alloc E.size _, fun h => by cases h⟩
    ·have C := isL_yes n hy;rw [C];have H := owni_below z B (owni_lt z).2;have R2 := reads_below F.out B;obtain ⟨b', D, rfl, S, q2⟩ := reads_two R2;have CP := run_copy_two V 3 g (k * 2) w.heap.size c f ⟨b', D, none⟩ 2 cj x y H (by have := p.out; omega) S (by simpa [Addr.add] using q2);have M : Hid _ := copied_two H (k * 2) x y;have O : k * 2 + 2 ≤ c := by have := (owni_cap H).1; have := p.out; omega
     clear F z s B R2 S q2 H;generalize hW : V.setCells g (k * 2) [nI x, nI y] = W at CP M;clear hW;go_wp2_with (go_at_call 92; refine (cut_any _ _ _ _ _ (by omega) O).mono ?_; rintro e o ⟨rfl, m⟩; rw [m]; clear m o)
     go_roundw
     case rel =>
      refine ⟨k + 1, by omega, by go_num, (f.set (k * 2) x).set (k * 2 + 1) y, by have := p.out; simpa using this, ?_, M.out.1, E.grown M.out.2 E.size (by intro j hj; cases hj; exact l1)⟩;intro i d r q;rw [pr_set f k i x y (by have := p.out; omega)];by_cases e : i = k
      ·subst e;rw [J.out] at q;cases q;exact ⟨if_pos rfl, C⟩
      ·rw [if_neg e];exact U.out i d (by omega) q
     case measure => simp [intOf]; omega
   ·have K : k = xss.length := by omega
    subst K;have A := memOk_all I (fun i d r n => (l i d r n).2);have HP : Hid _ := prs_all (fun i d r n => (l i d r n).1);have p : Hid (f.length = xss.length * 2) := G;clear G;go_wp2;rw [A];go_ret2
    exact ⟨_, rfl, s, fun _ => ⟨f, p.out, HP.out, g, c, by rw [p.out]; rfl, l1, (owni_lt z).2, z, s⟩⟩
theorem implMemoryOk_any (a : Option Addr) (xss : List (List Int)) (cap : Nat) (w : World) (h : ReadsM w a xss) (hm : xss.length ≤ 9223372036854775807) :
    Calls Tryz.prog 189 #[sL a xss.length cap] w fun e w' => e = .returned (.bool (memOk xss)) ∧ Bl w w' := by
 go_enter Tryz.func189, Tryz.ntmps189;go_wp2_with fail
 refine (rowOf_any _ xss _ _ h hm).mono ?_;rintro e w1 ⟨v, rfl, b, _⟩;go_wp2;go_ret
 exact ⟨rfl, b⟩
theorem specMemoryOk_any (a : Option Addr) (xss : List (List Int)) (cap : Nat) (w : World) (h : ReadsM w a xss) (hm : xss.length ≤ 2305843009213693952) :
    Calls Tryz.prog 128 #[sL a xss.length cap] w fun e g => e = .returned (.bool (memOk xss)) ∧ g = w := by
 go_enter Tryz.func128, Tryz.ntmps128;go_wp2;go_loop [3] (fun i => ∃ k : Nat, k ≤ xss.length ∧ i = nI k ∧ ∀ (i : Nat) f, i < k → xss[i]? = some f → isL f = true) (fun i => xss.length - (intOf i).toNat)
 case atStart => exact ⟨0, Nat.zero_le _, rfl, fun i f hi => absurd hi (Nat.not_lt_zero _)⟩
 case round =>
  obtain ⟨k, hk, rfl, c⟩ := hrel;by_cases m : k < xss.length
  ·have v : (k : Int) < (xss.length : Int) := by omega
   obtain ⟨f, n⟩ := get_of_lt m;obtain ⟨b, z, A, cj, rfl, g1, r⟩ := readsM_at h n;have s : Hid (Reads w A f) := r;have o : Hid (xss[k]? = some f) := n;have y : Hid _ := c;clear h r n c;cases j : isL f
   ·have q := memOk_not o.out j;go_wp2_with (go_at_call 131; refine (specLineOk_any _ f _ _ s.out).mono ?_; rintro e g ⟨rfl, d⟩; rw [d, j]; clear d g)
    go_ret
    exact ⟨ret_bool (by first | rfl | exact q.symm | simp [q]), rfl⟩
   ·go_wp2_with (go_at_call 131; refine (specLineOk_any _ f _ _ s.out).mono ?_; rintro e g ⟨rfl, d⟩; rw [d, j]; clear d g)
    go_round
    case rel =>
     refine ⟨k + 1, by omega, by go_num, fun i ys hi hy => ?_⟩;by_cases e : i = k
     ·subst e;rw [o.out] at hy;cases hy;exact j
     ·exact y.out i ys (by omega) hy
    case measure => simp [intOf]; omega
  ·have l : k = xss.length := by omega
   subst l;have B : Hid (betw (xss.length : Int) 1 16 = memOk xss) := by
    unfold Hid;cases p : betw (xss.length : Int) 1 16
    ·unfold memOk; rw [p]; rfl
    ·exact (memOk_all p c).symm
   clear c;go_wp2_with (go_at_call 126; refine (l1In_any _ _ _ _).mono ?_; rintro e g ⟨rfl, rfl⟩)
   go_ret
   exact ⟨ret_bool B.out, rfl⟩
set_option linter.unusedVariables false
def houseB (x : HouseD) : Bool := memOk x.1 && (decide (x.2.length = x.1.length) && x.2.all entB)
theorem house_len {x : HouseD} (h : houseM.bk x ≤ 1048576) : x.1.length ≤ 1048576 ∧ x.2.length ≤ 1048576 := by
 have e : houseM.bk x = (x.1.length + sumbk intsM x.1) + (x.2.length + sumbk entM x.2) := rfl;omega
theorem ent_at {w : World} {a : Option Addr} {xs : List EntryD} {k : Nat} {x : EntryD} (h : SlRd entR w a xs) (hx : xs[k]? = some x) :
    ∃ b d f i, a = some ⟨b, d, none⟩ ∧ w.cell? ⟨b, d + k * 8, none⟩ = some (nI x.1) ∧ w.cell? ⟨b, d + k * 8 + 1, none⟩ = some (nI x.2.1) ∧ w.cell? ⟨b, d + k * 8 + 2, none⟩ = some (.bool x.2.2.1) ∧ w.cell? ⟨b, d + k * 8 + 3, none⟩ = some (nI x.2.2.2.1) ∧ w.cell? ⟨b, d + k * 8 + 4, none⟩ = some (nI x.2.2.2.2.1) ∧ w.cell? ⟨b, d + k * 8 + 5, none⟩ = some (nI x.2.2.2.2.2.1) ∧ w.cell? ⟨b, d + k * 8 + 6, none⟩ = some (nI x.2.2.2.2.2.2.1) ∧ w.cell? ⟨b, d + k * 8 + 7, none⟩ = some (sL f x.2.2.2.2.2.2.2.length i) ∧ SlRd intR w f x.2.2.2.2.2.2.2 := by
 obtain ⟨b, d, cs, rfl, g, c⟩ := slrd_at h hx;obtain ⟨f, i, rfl, -, -, -, -, -, -, -, -, j⟩ := ent_rd g;exact ⟨b, d, f, i, rfl, c 0 _ rfl, c 1 _ rfl, c 2 _ rfl, c 3 _ rfl, c 4 _ rfl, c 5 _ rfl, c 6 _ rfl, c 7 _ rfl, j⟩
theorem bookOk1_any (x : EntryD) (ad : Option Addr) (cp : Nat) (w : World) (h : SlRd intR w ad x.2.2.2.2.2.2.2) :
    Calls Tryz.prog 229 #[.agg #[nI x.1, nI x.2.1, .bool x.2.2.1, nI x.2.2.2.1, nI x.2.2.2.2.1, nI x.2.2.2.2.2.1, nI x.2.2.2.2.2.2.1, sL ad x.2.2.2.2.2.2.2.length cp]] w fun e w' => e = .returned (.bool (!entB x)) ∧ Bl w w' := by
 have B := box_below w (.cells #[nI x.1, nI x.2.1, .bool x.2.2.1, nI x.2.2.2.1, nI x.2.2.2.2.1, nI x.2.2.2.2.2.1, nI x.2.2.2.2.2.2.1, sL ad x.2.2.2.2.2.2.2.length cp] 101);have a : Hid _ := fun (W : World) (hb : Bl w W) => implEntryOk_any x.1 x.2.1 x.2.2.2.1 x.2.2.2.2.1 x.2.2.2.2.2.1 x.2.2.2.2.2.2.1 x.2.2.1 x.2.2.2.2.2.2.2 ad cp W (slrd_next h hb);generalize entB x = q at a ⊢;clear h;go_enter Tryz.func229, Tryz.ntmps229;go_wp2_with fail
 generalize w.alloc (.cells #[nI x.1, nI x.2.1, .bool x.2.2.1, nI x.2.2.2.1, nI x.2.2.2.2.1, nI x.2.2.2.2.2.1, nI x.2.2.2.2.2.2.1, sL ad x.2.2.2.2.2.2.2.length cp] 101) = W0 at B ⊢;refine (a.out _ B).mono ?_;rintro e w1 ⟨rfl, b⟩;go_wp2;go_ret
 exact ⟨rfl, below_step B b⟩
theorem indexBadE_any (a : Option Addr) (xs : List EntryD) (cap : Nat) (w : World) (h : SlRd entR w a xs) (hm : xs.length ≤ maxLen) :
    Calls Tryz.prog 226 #[sL a xs.length cap, .func (.func 229) #[] #[]] w fun e w' => e = .returned (nI (badP entB xs)) ∧ Bl w w' := by
 have H : xs.length ≤ 9223372036854775807 := hm;have K : Hid (∀ W, Bl w W → SlRd entR W a xs) := fun W f => slrd_keep h fun k s => f.block k s;clear h hm;go_enter Tryz.func226, Tryz.ntmps226;go_wp2;go_loopw [8] (fun i wr => ∃ k : Nat, k ≤ xs.length ∧ i = nI k ∧ (∀ j v, j < k → xs[j]? = some v → entB v = true) ∧ Bl w wr) (fun i _ => xs.length - (intOf i).toNat)
 case atStart => exact ⟨0, Nat.zero_le _, rfl, fun j v hj => by omega, Below.refl _ _⟩
 case round =>
  obtain ⟨k, s, rfl, d, c⟩ := hrel;by_cases n : k < xs.length
  ·have B : (k : Int) < (xs.length : Int) := by omega
   obtain ⟨x, o⟩ : ∃ x, xs[k]? = some x := ⟨_, List.getElem?_eq_getElem n⟩;obtain ⟨b, J, M, I, rfl, y, D, F, E, A, r, p, C, z⟩ := ent_at (K.out _ c) o;have l := bookOk1_any x M I wr z;clear z;have q : Hid (xs[k]? = some x) := o;clear o;cases f : entB x
   ·have m : Hid (badP entB xs = k) := badP_at q.out f d;rw [f] at l;go_wp2_with fail
    refine l.mono ?_;rintro e G ⟨rfl, g⟩;replace c := below_step c g;clear g y D F E A r p C;go_wp2;go_ret
    exact ⟨ret_int m.out.symm, c⟩
   ·rw [f] at l;go_wp2_with fail
    refine l.mono ?_;rintro e G ⟨rfl, g⟩;replace c := below_step c g;clear g y D F E A r p C;go_wp2;go_roundw
    case rel =>
     refine ⟨k + 1, by omega, by go_num, fun j v hj hv => ?_, c⟩;by_cases L : j < k
     ·exact d j v L hv
     ·have : j = k := by omega
      subst this;rw [q.out] at hv;cases hv;exact f
    case measure => simp [intOf]; omega
  ·have m : Hid (badP entB xs = -1) := badP_no fun j v hv => d j v (by have := (List.getElem?_eq_some_iff.1 hv).1; omega) hv;go_wp2;go_ret
   exact ⟨ret_int m.out.symm, c⟩
theorem containsBadE_any (a : Option Addr) (xs : List EntryD) (cap : Nat) (w : World) (h : SlRd entR w a xs) (hm : xs.length ≤ maxLen) :
    Calls Tryz.prog 181 #[sL a xs.length cap, .func (.func 229) #[] #[]] w fun e w' => e = .returned (.bool (!xs.all entB)) ∧ Bl w w' := by
 have f := indexBadE_any a xs cap w h hm;have b := badP_all entB xs;clear h hm;generalize badP entB xs = q at f b;generalize xs.all entB = y at b ⊢;subst b;by_cases g : q < 0
 ·have c : ¬ (0 ≤ q) := by omega
  go_enter Tryz.func181, Tryz.ntmps181;go_wp2_with fail
  refine f.mono ?_;rintro e i ⟨rfl, d⟩;go_wp2;go_ret
  exact ⟨by simp [g], d⟩
 ·have c : 0 ≤ q := by omega
  go_enter Tryz.func181, Tryz.ntmps181;go_wp2_with fail
  refine f.mono ?_;rintro e i ⟨rfl, d⟩;go_wp2;go_ret
  exact ⟨by simp [g], d⟩
theorem implBookOk_any (a : Option Addr) (xs : List EntryD) (cap : Nat) (w : World) (h : SlRd entR w a xs) (hm : xs.length ≤ maxLen) :
    Calls Tryz.prog 190 #[sL a xs.length cap] w fun e w' => e = .returned (.bool (xs.all entB)) ∧ Bl w w' := by
 have b := containsBadE_any a xs cap w h hm;generalize xs.all entB = y at b ⊢;clear h hm;go_enter Tryz.func190, Tryz.ntmps190;go_wp2_with fail
 refine b.mono ?_;rintro e w1 ⟨rfl, c⟩;go_wp2;go_ret
 exact ⟨by simp, c⟩
theorem implHouseOk_u (cs : List Value) (x : HouseD) (w : World) (h : houseR.rd w cs x) :
    Calls Tryz.prog 146 #[aggV cs] w fun e w' => e = .returned (.bool (houseB x)) ∧ Bl w w' := by
 obtain ⟨v0, v1, rfl, ⟨c, d, A, k, j, z⟩, ⟨b, f, s, g, l, o⟩⟩ := house_rd h;simp only [List.cons.injEq, and_true] at A s;obtain rfl := A;obtain rfl := s;clear h;change Calls Tryz.prog 146 #[.agg #[sL c x.1.length d, sL b x.2.length f]] w _
 have p : Hid _ := fun (W : World) (hb : Bl w W) => implMemoryOk_any c x.1 d W (readsM_of (slrd_next z hb)) (Nat.le_trans k j);have v : Hid _ := fun (W : World) (hb : Bl w W) => implBookOk_any b x.2 f W (slrd_next o hb) (Nat.le_trans g l);have E : x.1.length ≤ 9223372036854775807 := Nat.le_trans k j;have D : x.2.length ≤ 9223372036854775807 := Nat.le_trans g l;clear z o k j g l;have X := heap_at w (.cells #[sL c x.1.length d, sL b x.2.length f] 41);have B := box_below w (.cells #[sL c x.1.length d, sL b x.2.length f] 41);unfold houseB;generalize memOk x.1 = q at p ⊢;generalize x.2.all entB = r at v ⊢;generalize x.1.length = n at *;generalize x.2.length = m at *;go_enter Tryz.func146, Tryz.ntmps146;go_wp2_with fail
 generalize w.alloc (.cells #[sL c n d, sL b m f] 41) = W0 at X B ⊢;refine (p.out _ B).mono ?_;rintro e w1 ⟨rfl, a⟩;replace X := row_keep a X;replace B := below_step B a;clear a;obtain ⟨F, C⟩ := cells_house X;cases q
 ·clear X;go_wp2;go_ret
  exact ⟨rfl, B⟩
 ·by_cases y : m = n
  ·subst y;have i : ((m : Int) == (m : Int)) = true := by simp
   go_wp2_with fail
   refine (v.out _ B).mono ?_;rintro e w2 ⟨rfl, a⟩;replace B := below_step B a;clear a X F C;go_wp2;go_ret
   exact ⟨by simp, B⟩
  ·have i : ((m : Int) == (n : Int)) = false := by simp; omega
   clear X;go_wp2;go_ret
   exact ⟨by simp [y], B⟩
theorem specHouseOk_u (cs : List Value) (x : HouseD) (w : World) (h : houseR.rd w cs x) (L : houseM.bk x ≤ 1048576) :
    Calls Tryz.prog 67 #[aggV cs] w fun e w' => e = .returned (.bool (houseB x)) ∧ Bl w w' := by
 obtain ⟨v0, v1, rfl, ⟨d, f, e0, l1, l2, q0⟩, ⟨g, s, H, m1, m2, T⟩⟩ := house_rd h;simp only [List.cons.injEq, and_true] at e0 H;obtain rfl := e0;obtain rfl := H;clear h;obtain ⟨S, CA⟩ := house_len L;change Calls Tryz.prog 67 #[.agg #[sL d x.1.length f, sL g x.2.length s]] w _
 have p : Hid (∀ W, Bl w W → Calls Tryz.prog 128 #[sL d x.1.length f] W fun e w' => e = .returned (.bool (memOk x.1)) ∧ Bl W w') := fun W l => (specMemoryOk_any d x.1 f W (readsM_of (slrd_next q0 l)) (by omega)).mono fun e w' ⟨q, r⟩ => ⟨q, be_eq r⟩;have HE : Hid (∀ W, Bl w W → SlRd entR W g x.2) := fun W l => slrd_next T l;clear q0 T l1 l2 m1 m2 L;have X := heap_at w (.cells #[sL d x.1.length f, sL g x.2.length s] 41);have B := box_below w (.cells #[sL d x.1.length f, sL g x.2.length s] 41);have R : Hid (memOk x.1 = false → houseB x = false) := fun e => by unfold houseB; rw [e]; rfl
 have J : Hid (¬ x.2.length = x.1.length → houseB x = false) := fun e => by unfold houseB; simp [e]
 have HB : Hid (∀ j u, x.2[j]? = some u → entB u = false → houseB x = false) := fun j u hu e => by
  have : x.2.all entB = false := by
   cases hh : x.2.all entB
   ·rfl
   ·rw [List.all_eq_true] at hh;rw [hh u (List.mem_of_getElem? hu)] at e;cases e
  unfold houseB;simp [this]
 have I : Hid (memOk x.1 = true → x.2.length = x.1.length → (∀ j u, x.2[j]? = some u → entB u = true) → houseB x = true) := fun H e2 e3 => by
  have : x.2.all entB = true := List.all_eq_true.2 fun u hu => by
   obtain ⟨j, O⟩ := List.getElem?_of_mem hu;exact e3 j u O
  unfold houseB;simp [H, e2, this]
 cases a : memOk x.1
 ·rw [R.out a];rw [a] at p;generalize x.1.length = n at *;generalize x.2.length = m at *;go_enter Tryz.func67, Tryz.ntmps67;go_wp2_with fail
  generalize w.alloc (.cells #[sL d n f, sL g m s] 41) = W0 at X B ⊢;refine (p.out _ B).mono ?_;rintro e w1 ⟨rfl, c⟩;replace B := below_step B c;clear c X;go_wp2;go_ret
  exact ⟨rfl, B⟩
 by_cases z : x.2.length = x.1.length
 ·rw [a] at p;have K : Hid ((∀ j u, x.2[j]? = some u → entB u = true) → houseB x = true) := I.out a z;rw [← z] at p X B ⊢;clear I R J a S z;go_enter Tryz.func67, Tryz.ntmps67;go_wp2_with fail
  generalize w.alloc (.cells #[sL d x.2.length f, sL g x.2.length s] 41) = W0 at X B ⊢;refine (p.out _ B).mono ?_;rintro e w1 ⟨rfl, c⟩;replace X := row_keep c X;replace B := below_step B c;clear c;obtain ⟨G, F⟩ := cells_house X;go_wp2;clear G F;go_loopw [3] (fun i wr => ∃ k : Nat, k ≤ x.2.length ∧ i = nI k ∧ (∀ j v, j < k → x.2[j]? = some v → entB v = true) ∧ Bl w wr ∧ wr.heap[w.heap.size]? = some (.cells #[sL d x.2.length f, sL g x.2.length s] 41 (0, 0))) (fun i _ => x.2.length - (intOf i).toNat)
  case atStart => exact ⟨0, Nat.zero_le _, rfl, fun j v O => by omega, B, X⟩
  case round =>
   obtain ⟨k, L, rfl, E, o, C⟩ := hrel;obtain ⟨G, F⟩ := cells_house C;by_cases M : k < x.2.length
   ·have aA : (k : Int) < (x.2.length : Int) := by omega
    obtain ⟨y, N⟩ : ∃ y, x.2[k]? = some y := ⟨_, List.getElem?_eq_getElem M⟩;obtain ⟨b, sA, ad, cp, rfl, z0, z1, z2, V, Y, z5, z6, z7, Z⟩ := ent_at (HE.out _ o) N;have D := specEntryOk_any y.1 y.2.1 y.2.2.2.1 y.2.2.2.2.1 y.2.2.2.2.2.1 y.2.2.2.2.2.2.1 y.2.2.1 y.2.2.2.2.2.2.2 ad cp wr Z;rw [show entB (y.1, y.2.1, y.2.2.1, y.2.2.2.1, y.2.2.2.2.1, y.2.2.2.2.2.1, y.2.2.2.2.2.2.1, y.2.2.2.2.2.2.2) = entB y from rfl] at D;have U : Hid (x.2[k]? = some y) := N;clear N Z;cases l : entB y
    ·rw [l] at D;go_wp2_with fail
     refine D.mono ?_;rintro e w2 ⟨rfl, A⟩;replace o := below_step o A;clear A z0 z1 z2 V Y z5 z6 z7 G F C X B;go_wp2;go_ret
     exact ⟨ret_bool (HB.out k y U.out l).symm, o⟩
    ·rw [l] at D;go_wp2_with fail
     refine D.mono ?_;rintro e w2 ⟨rfl, A⟩;replace o := below_step o A;replace C := row_keep A C;clear A z0 z1 z2 V Y z5 z6 z7 G F X B;go_wp2;go_roundw
     case rel =>
      refine ⟨k + 1, by omega, by go_num, fun j v O hv => ?_, o, C⟩;by_cases z : j < k
      ·exact E j v z hv
      ·have : j = k := by omega
       subst this;rw [U.out] at hv;cases hv;exact l
     case measure => simp [intOf]; omega
   ·have HR : Hid (houseB x = true) := K.out fun j v hv => E j v (by have := (List.getElem?_eq_some_iff.1 hv).1; omega) hv;go_wp2;go_ret
    exact ⟨ret_bool HR.out.symm, o⟩
 ·rw [J.out z];rw [a] at p;have vA : ¬ ((x.2.length : Int) = (x.1.length : Int)) := by omega
  have zA : ((x.2.length : Int) != (x.1.length : Int)) = true := by simp; omega
  clear I R J HB HE a z;generalize x.1.length = n at *;generalize x.2.length = m at *;go_enter Tryz.func67, Tryz.ntmps67;go_wp2_with fail
  generalize w.alloc (.cells #[sL d n f, sL g m s] 41) = W0 at X B ⊢;refine (p.out _ B).mono ?_;rintro e w1 ⟨rfl, c⟩;replace X := row_keep c X;replace B := below_step B c;clear c;obtain ⟨G, F⟩ := cells_house X;clear X;go_wp2;go_ret
  exact ⟨rfl, B⟩
end Go.Proofs.YtdamokokcdcedaaGreatDoor
