import Derived.Test.YtmaopldahnejdaaGreatDoorH00Box
import Derived.Test.YtmaopldahnejdaaGreatDoorH12
namespace Go.Proofs.YtmaopldahnejdaaGreatDoor
set_option maxHeartbeats 1000000
open Go.ChangeShapes Go.WideShapes Go.ChangeAt Go.RowKit
def pr (zs : List Int) (j : Nat) : List Int := [zs.getD (j * 2) 0, zs.getD (j * 2 + 1) 0]
def prs (zs : List Int) (n : Nat) : List (List Int) := (List.range n).map (pr zs)
theorem Tryz.sizeI : (Tryz.prog.info? 2).map (·.size) = some 1 := by kernel_rfl
theorem copied_two {B g cap : Nat} {w : World} {zs : List Int} (h : OwnI B w g cap zs) (o : Nat) (x y : Int) :
    OwnI B (w.setCells g o [nI x, nI y]) g cap ((zs.set o x).set (o + 1) y) ∧ w.grownBy (w.setCells g o [nI x, nI y]) (some g) := by
 have a := World.ownsRow.stored h o (nI x);have b := World.ownsRow.stored a.1 (o + 1) (nI y);refine ⟨?_, grown_trans a.2 b.2⟩;unfold OwnI;rw [List.length_set, List.length_set, List.map_set, List.map_set];exact b.1
theorem owni_at {B g cap : Nat} {w : World} {zs : List Int} (h : OwnI B w g cap zs) (i : Nat) (hi : i < zs.length) : w.cell? ⟨g, i, none⟩ = some (nI (zs.getD i 0)) := by
 rw [World.ownsRow.cellAt h i (by omega)];simp [List.getD_eq_getElem?_getD, hi]
theorem run_copy_two (w : World) (ty : TypeId) (b o : Nat) (B cap : Nat) (zs : List Int) (a : Addr) (dc sc : Nat) (x y : Int) (h : OwnI B w b cap zs) (ho : o + 2 ≤ zs.length)
    (h0 : w.cell? a = some (nI x)) (h1 : w.cell? (a.add 1) = some (nI y)) :
    (Builtin.copy_ #[28, 28] ty #[sL (some ⟨b, o, none⟩) 2 dc, sL (some a) 2 sc]).run Tryz.prog w = .ok (nI 2) (w.setCells b o [nI x, nI y]) := by
 refine run_copy_cells (P := Tryz.prog) w 28 28 ty 2 b o 2 dc a 2 sc [nI x, nI y] Tryz.underlying28 Tryz.sizeI rfl ?_ ?_ ?_ ?_
 ·intro j v c;match j, c with
  | 0, c => simp at c; subst c; rw [show a.add 0 = a from by simp [Addr.add]]; exact h0
  | 1, c => simp at c; subst c; exact h1
 ·intro j c;rw [owni_at h (o + j) (by simp at c; omega)];rfl
 ·intro j _;exact World.ownsRow.frozenAt h (o + j)
 ·intro v d;simp at d
  rcases d with rfl | rfl <;> rfl
theorem lineAt_any (B g cap j : Nat) (zs : List Int) (w : World) (h : OwnI B w g cap zs) (hj : j * 2 + 2 ≤ zs.length) (hz : zs.length ≤ 32) :
    Calls Tryz.prog 122 #[sL (some ⟨g, 0, none⟩) zs.length cap, nI j] w fun e i => ∃ v, e = .returned v ∧ Made w i v (pr zs j) := by
 have d := Go.run_make_row' (P := Tryz.prog) 28 2 (nI 0) 8 Tryz.underlying28 Tryz.infoI rfl .i64 .i64 2 (by omega) (by omega);have m : ((2 : Nat) : Int) = 2 := rfl;simp only [m] at d;have hc := (owni_cap h).1;have O := owni_lit w (madeCells #[nI 0] 2) [0, 0] (made_zeroM 2) (by unfold maxLen; simp);have c : OwnI B (w.alloc (.cells (madeCells #[nI 0] 2) 2)) g cap zs := World.ownsRow.alloc h _;have f := owni_at c (j * 2) (by omega);have b := owni_at c (j * 2 + 1) (by omega);unfold pr;generalize zs.getD (j * 2) 0 = x at f ⊢;generalize zs.getD (j * 2 + 1) 0 = y at b ⊢;have l := run_copy_two _ 3 w.heap.size 0 w.heap.size 2 [0, 0] ⟨g, j * 2, none⟩ 2 2 _ _ O (by simp) f b;have a : Hid _ := copied_two O 0 x y;clear c f b O;generalize o : (w.alloc (.cells (madeCells #[nI 0] 2) 2)).setCells w.heap.size 0 [nI x, nI y] = W at l a;clear o;go_enter Tryz.func122, Tryz.ntmps122;go_wp2_with (go_at_call 128; refine (cut_any _ _ _ _ _ (by omega) (by omega)).mono ?_; rintro e i ⟨rfl, rfl⟩)
 go_ret
 refine ⟨_, rfl, w.heap.size, 2, rfl, Nat.le_refl _, ?_, a.out.1, ?_⟩
 ·exact (owni_lt a.out.1).2
 ·exact ((Below.refl _ _).alloc (Nat.le_refl _) _).grown a.out.2 (by simp) (by intro k n; cases n; exact Nat.le_refl _)
theorem prs_push {zs : List Int} {rs : List Rw} {k g c : Nat} (h : rs.map Rw.xs = prs zs k) : (rs ++ [(⟨g, c, pr zs k⟩ : Rw)]).map Rw.xs = prs zs (k + 1) := by
 rw [List.map_append, h];simp [prs, List.range_succ]
theorem prs_len (zs : List Int) (n : Nat) : (prs zs n).length = n := by simp [prs]
theorem memory_any (B g cap n : Nat) (zs : List Int) (w : World) (h : OwnI B w g cap zs) (hz : zs.length = n * 2) (hn : n ≤ 16) :
    Calls Tryz.prog 93 #[sL (some ⟨g, 0, none⟩) zs.length cap] w fun e w' => ∃ v, e = .returned v ∧ MadeM w w' v (prs zs n) := by
 have p := Go.run_make_row' (P := Tryz.prog) 24 28 (sL none 0 0) 24 Tryz.underlying24 Tryz.infoS rfl .i64 .i64 n (by omega) (by omega);have q : Hid (zs.length = n * 2) := hz;clear hz;go_enter Tryz.func93, Tryz.ntmps93;go_wp2_with fail
 refine (rowLines_any _ n _ _ _ hn q.out).mono ?_;rintro e w1 ⟨rfl, d⟩;rw [d];clear d w1;go_wp2;go_loopw [10] (fun i wr => ∃ k : Nat, k ≤ n ∧ i = nI k ∧ ∃ j : List Rw, j.map Rw.xs = prs zs k ∧ Out w.heap.size wr w.heap.size n n (j.map Rw.v ++ (madeCells #[sL none 0 0] n).toList.drop k) ∧ Inn w.heap.size wr.heap.size wr j ∧ Bl w wr)
  (fun i _ => n - (intOf i).toNat)
 case atStart => exact ⟨0, Nat.zero_le _, rfl, [], rfl, by simpa using out_made w n (by unfold maxLen; omega), inn_nil _ _ _, (Below.refl _ _).alloc (Nat.le_refl _) _⟩
 case round =>
  obtain ⟨k, hk, rfl, j, b, m, l, f⟩ := hrel;by_cases r : k < n
  ·have F : (k : Int) < (n : Int) := by omega
   have a : j.length = k := by have := congrArg List.length b; simpa [prs_len] using this
   have H : Hid (∀ w1 v, Made wr w1 v (pr zs k) → _) := fun w1 v hm => fill_step (v := v) (w1 := w1) a r (by simp [size_madeCells]) m l f hm;have K : Hid (∀ g c, _) := fun g c => prs_push (g := g) (c := c) b;have I : Hid (OwnI B wr g cap zs) := owni_below h f (owni_lt h).2;clear h m l f b p a;go_wp2_with (go_at_call 122; refine (lineAt_any _ _ _ _ _ _ I.out (by have := q.out; omega) (by have := q.out; omega)).mono ?_; rintro e w1 ⟨v, rfl, C⟩; obtain ⟨g, c, rfl, ⟨v0, J⟩, G, z, E, A⟩ := H.out _ _ C; have s : Hid _ := z; have o : Hid _ := E; have y : Hid _ := A; clear z E A C)
   go_roundw
   case rel => exact ⟨k + 1, by omega, by go_num, _, K.out g c, s.out, o.out, y.out⟩
   case measure => simp [intOf]; omega
  ·have a : k = n := by omega
   subst a;have D := fill_end b (prs_len _ _) (by simp [size_madeCells]) m l f;rw [prs_len] at D;clear m l f;go_wp2;go_ret
   exact ⟨_, rfl, D⟩
theorem pr_set (zs : List Int) (k i : Nat) (x y : Int) (h : k * 2 + 1 < zs.length) : pr ((zs.set (k * 2) x).set (k * 2 + 1) y) i = if i = k then [x, y] else pr zs i := by
 unfold pr;by_cases e : i = k
 ·subst e;simp [List.getD_eq_getElem?_getD, show i * 2 < zs.length by omega, h]
 ·rw [if_neg e];have d : ¬ k * 2 = i * 2 := by omega
  have c : ¬ k * 2 + 1 = i * 2 := by omega
  have a : ¬ k * 2 = i * 2 + 1 := by omega
  have b : ¬ k * 2 + 1 = i * 2 + 1 := by omega
  rw [List.getD_eq_getElem?_getD, List.getD_eq_getElem?_getD, List.getElem?_set_ne c, List.getElem?_set_ne d, List.getElem?_set_ne b, List.getElem?_set_ne a, ← List.getD_eq_getElem?_getD, ← List.getD_eq_getElem?_getD]
theorem prs_get {zs : List Int} {n i : Nat} (h : i < n) : (prs zs n)[i]? = some (pr zs i) := by simp [prs, h]
def memOk (xss : List (List Int)) : Bool := betw xss.length 1 16 && xss.all isL
theorem memOk_not {xss : List (List Int)} {k : Nat} {xs : List Int} (hx : xss[k]? = some xs) (hn : isL xs = false) : memOk xss = false := by
 unfold memOk;rw [Bool.and_eq_false_iff];right
 rw [List.all_eq_false];exact ⟨xs, List.mem_of_getElem? hx, by simp [hn]⟩
theorem memOk_all {xss : List (List Int)} (hl : betw xss.length 1 16 = true) (h : ∀ (i : Nat) a, i < xss.length → xss[i]? = some a → isL a = true) : memOk xss = true := by
 unfold memOk;rw [hl, Bool.true_and, List.all_eq_true];intro a c;obtain ⟨i, b, rfl⟩ := List.mem_iff_getElem.1 c;exact h i _ b (List.getElem?_eq_getElem b)
theorem prs_all {xss : List (List Int)} {zs : List Int} (h : ∀ (i : Nat) a, i < xss.length → xss[i]? = some a → pr zs i = a) : prs zs xss.length = xss := by
 apply List.ext_getElem?
 intro i;by_cases b : i < xss.length
 ·obtain ⟨a, c⟩ := get_of_lt b;rw [prs_get b, c, h i a b c]
 ·rw [List.getElem?_eq_none (by rw [prs_len]; omega), List.getElem?_eq_none (by omega)]
theorem rowOf_any (a : Option Addr) (xss : List (List Int)) (cap : Nat) (w : World) (h : ReadsM w a xss) (hm : xss.length ≤ 9223372036854775807) :
    Calls Tryz.prog 99 #[sL a xss.length cap] w fun e p => ∃ v, e = .returned (.tuple #[v, .bool (memOk xss)]) ∧ Bl w p ∧
     (memOk xss = true → ∃ l, l.length = xss.length * 2 ∧ prs l xss.length = xss ∧ Made w p v l) := by
 cases M : betw xss.length 1 16
 ·have D : memOk xss = false := by unfold memOk; rw [M]; rfl
  rw [D];go_enter Tryz.func99, Tryz.ntmps99;go_wp2_with (go_at_call 44; refine (linesOk_any _ _).mono ?_; rintro e p ⟨rfl, rfl⟩)
  go_ret2
  exact ⟨_, rfl, (Below.refl _ _).alloc (Nat.le_refl _) _, fun h => by cases h⟩
 ·have K : 1 ≤ xss.length ∧ xss.length ≤ 16 := by simp [betw] at M; omega
  go_enter Tryz.func99, Tryz.ntmps99;go_wp2_with (go_at_call 44; refine (linesOk_any _ _).mono ?_; rintro e p ⟨rfl, m⟩; rw [m]; clear m p)
  refine (newRow_any _ _ K.2).mono ?_;rintro e w1 ⟨v, rfl, g, c, rfl, T, L, Z, b1⟩;go_wp2_with fail
  go_loopw [18] (fun i wr => ∃ k : Nat, k ≤ xss.length ∧ i = nI k ∧ ∃ l : List Int, l.length = xss.length * 2 ∧ (∀ (i : Nat) d, i < k → xss[i]? = some d → pr l i = d ∧ isL d = true) ∧ OwnI w.heap.size wr g c l ∧ Bl w wr)
   (fun i _ => xss.length - (intOf i).toNat)
  case atStart => exact ⟨0, Nat.zero_le _, rfl, _, by simp, fun i d s => absurd s (Nat.not_lt_zero _), Z, b1⟩
  case round =>
   obtain ⟨k, hk, rfl, l, H, f, z, r⟩ := hrel;clear Z b1 L;by_cases N : k < xss.length
   ·have dA : (k : Int) < (xss.length : Int) := by omega
    obtain ⟨d, n⟩ := get_of_lt N;obtain ⟨b, iA, aj, cj, rfl, g1, S⟩ := readsM_at (readsM_below h r) n;have F : Hid (Reads wr aj d) := S;have J : Hid (xss[k]? = some d) := n;have Y : Hid _ := f;have o : Hid (l.length = xss.length * 2) := H;clear h S n f H;go_wp2_with fail
    refine (implLineOk_any _ d _ _ F.out).mono ?_;rintro e U ⟨rfl, B⟩;have E := below_step r B;rcases isL_cases d with X | ⟨x, y, rfl, n, hy⟩
    ·rw [X];have D := memOk_not J.out X;clear J Y F z r B;go_wp2;rw [D];go_ret2
     exact ⟨_, rfl, E.alloc E.size _, fun h => by cases h⟩
    ·have C := isL_yes n hy;rw [C];have G := owni_below z B (owni_lt z).2;have R2 := reads_below F.out B;obtain ⟨b', A, rfl, q1, V⟩ := reads_two R2;have CP := run_copy_two U 3 g (k * 2) w.heap.size c l ⟨b', A, none⟩ 2 cj x y G (by have := o.out; omega) q1 (by simpa [Addr.add] using V);have R : Hid _ := copied_two G (k * 2) x y;have O : k * 2 + 2 ≤ c := by have := (owni_cap G).1; have := o.out; omega
     clear F z r B R2 q1 V G;generalize hW : U.setCells g (k * 2) [nI x, nI y] = W at CP R;clear hW;go_wp2_with (go_at_call 128; refine (cut_any _ _ _ _ _ (by omega) O).mono ?_; rintro e p ⟨rfl, m⟩; rw [m]; clear m p)
     go_roundw
     case rel =>
      refine ⟨k + 1, by omega, by go_num, (l.set (k * 2) x).set (k * 2 + 1) y, by have := o.out; simpa using this, ?_, R.out.1, E.grown R.out.2 E.size (by intro j hj; cases hj; exact T)⟩;intro i d s q;rw [pr_set l k i x y (by have := o.out; omega)];by_cases e : i = k
      ·subst e;rw [J.out] at q;cases q;exact ⟨if_pos rfl, C⟩
      ·rw [if_neg e];exact Y.out i d (by omega) q
     case measure => simp [intOf]; omega
   ·have I : k = xss.length := by omega
    subst I;have D := memOk_all M (fun i d s n => (f i d s n).2);have HP : Hid _ := prs_all (fun i d s n => (f i d s n).1);have o : Hid (l.length = xss.length * 2) := H;clear H;go_wp2;rw [D];go_ret2
    exact ⟨_, rfl, r, fun _ => ⟨l, o.out, HP.out, g, c, by rw [o.out]; rfl, T, (owni_lt z).2, z, r⟩⟩
def readL (xss : List (List Int)) (k : Int) : List Int := if memOk xss && betw k 0 ((xss.length : Int) - 1) then xss.getD k.toNat [] else []
theorem memOk_len {xss : List (List Int)} (h : memOk xss = true) : 1 ≤ xss.length ∧ xss.length ≤ 16 := by
 unfold memOk at h;rw [Bool.and_eq_true] at h;have := h.1;simp [betw] at this
 omega
theorem memOk_get {xss : List (List Int)} (h : memOk xss = true) {j : Nat} {xs : List Int} (hx : xss[j]? = some xs) : isL xs = true := by
 unfold memOk at h;rw [Bool.and_eq_true, List.all_eq_true] at h;exact h.2 xs (List.mem_of_getElem? hx)
theorem betw_nat {k : Int} {n : Nat} (h : betw k 0 ((n : Int) - 1) = true) : ∃ j : Nat, k = j ∧ j < n := by
 simp [betw] at h
 exact ⟨k.toNat, by omega, by omega⟩
theorem implMemoryOk_any (a : Option Addr) (xss : List (List Int)) (cap : Nat) (w : World) (h : ReadsM w a xss) (hm : xss.length ≤ 9223372036854775807) :
    Calls Tryz.prog 52 #[sL a xss.length cap] w fun e w' => e = .returned (.bool (memOk xss)) ∧ Bl w w' := by
 go_enter Tryz.func52, Tryz.ntmps52;go_wp2_with fail
 refine (rowOf_any _ xss _ _ h hm).mono ?_;rintro e w1 ⟨v, rfl, b, _⟩;go_wp2;go_ret
 exact ⟨rfl, b⟩
theorem implReadLine_any (a : Option Addr) (xss : List (List Int)) (cap : Nat) (k : Int) (w : World) (h : ReadsM w a xss) (hm : xss.length ≤ 9223372036854775807) :
    Calls Tryz.prog 116 #[sL a xss.length cap, nI k] w fun e n => ∃ v, e = .returned v ∧ Made w n v (readL xss k) := by
 cases d : memOk xss
 ·have f : readL xss k = [] := by unfold readL; rw [d]; rfl
  rw [f];go_enter Tryz.func116, Tryz.ntmps116;go_wp2_with fail
  refine (rowOf_any _ xss _ _ h hm).mono ?_;rintro e s ⟨v, rfl, o, _⟩;rw [d];go_wp2;go_ret
  exact ⟨_, rfl, made_step o (made_none3 _ _ rfl)⟩
 ·have y := memOk_len d;cases r : betw k 0 ((xss.length : Int) - 1)
  ·have f : readL xss k = [] := by unfold readL; rw [d, r]; rfl
   rw [f];clear f;go_enter Tryz.func116, Tryz.ntmps116;go_wp2_with fail
   refine (rowOf_any _ xss _ _ h hm).mono ?_;rintro e s ⟨v, rfl, o, m⟩;obtain ⟨zs, l, p, g, c, rfl, A, q, z, _⟩ := m d;rw [d];have i : Hid _ := l;clear l m p;go_wp2_with (go_at_call 139; refine (rowHas_any _ xss.length _ _ _ _ y.2 i.out).mono ?_; rintro e n ⟨rfl, b⟩; rw [b]; clear b n)
   go_ret
   exact ⟨_, rfl, made_step o (made_none3 _ _ rfl)⟩
  ·obtain ⟨j, rfl, C⟩ := betw_nat r;go_enter Tryz.func116, Tryz.ntmps116;go_wp2_with fail
   refine (rowOf_any _ xss _ _ h hm).mono ?_;rintro e s ⟨v, rfl, o, m⟩;obtain ⟨zs, l, p, g, c, rfl, A, q, z, _⟩ := m d;rw [d];have f : Hid (readL xss j = pr zs j) := by
    have := prs_get (zs := zs) C;rw [p] at this;unfold Hid readL;rw [d, r];simp [List.getD_eq_getElem?_getD, this]
   have i : Hid _ := l;clear l m p
   go_wp2_with (first
    | (go_at_call 139; refine (rowHas_any _ xss.length _ _ _ _ y.2 i.out).mono ?_; rintro e n ⟨rfl, b⟩; rw [b]; clear b n)
    | (go_at_call 122; refine (lineAt_any _ _ _ _ _ _ z (by have := i.out; omega) (by have := i.out; omega)).mono ?_; rintro e w2 ⟨v, rfl, B⟩))
   go_ret
   rw [f.out];exact ⟨_, rfl, made_step o B⟩
theorem made_put2 {w w1 : World} {g cap : Nat} {zs : List Int} (h : OwnI w.heap.size w1 g cap zs) (hb : Bl w w1) (k k2 : Nat) (u u2 : Int) :
    Made w ((w1.setCell ⟨g, k, none⟩ (nI u)).setCell ⟨g, k2, none⟩ (nI u2)) (sL (some ⟨g, 0, none⟩) zs.length cap) ((zs.set k u).set k2 u2) := by
 obtain ⟨g1, c1, a, _, _, c, b⟩ := made_put h hb k u;simp only [List.length_set, Value.slice.injEq, Option.some.injEq, Addr.mk.injEq, and_true, true_and] at a;obtain ⟨rfl, rfl⟩ := a;have M := made_put c b k2 u2;rw [List.length_set] at M;exact M
theorem l3Masked_any (a a2 : Option Addr) (x y x2 y2 : Int) (cap cap2 : Nat) (m : Int) (w : World) (h : Reads w a [x, y]) (h2 : Reads w a2 [x2, y2])
    (hx : okW x = true) (hy : okW y = true) (hx2 : okW x2 = true) (hy2 : okW y2 = true) (hm : betw m 0 3 = true) :
    Calls Tryz.prog 152 #[sL a 2 cap, sL a2 2 cap2, nI m] w fun e w' => ∃ v, e = .returned v ∧ Made w w' v (maskL [x, y] [x2, y2] m) := by
 have o : Hid (maskL [x, y] [x2, y2] m = [if m % 2 = 1 then x2 else x, if m / 2 % 2 = 1 then y2 else y]) := by
  unfold Hid maskL; simp [isL_yes hx hy, isL_yes hx2 hy2, hm]
 clear hx hy hx2 hy2;obtain ⟨b, z, rfl, -⟩ := reads_two h;have r := h2;obtain ⟨l, d, rfl, q, -⟩ := reads_two h2;rcases betw_four hm with rfl | rfl | rfl | rfl
 all_goals
  have c := o.out;simp at c
  have k : Hid _ := c;clear o c;have B : l < w.heap.size := World.block_lt_of_cell? w ⟨l, d, none⟩ q;go_enter Tryz.func152, Tryz.ntmps152;go_wp2_with fail
  refine (l1Copy_any _ [x, y] _ _ h (by simp)).mono ?_;rintro e w1 ⟨v, rfl, g, s, rfl, p, j, f, i⟩;obtain ⟨c0, c1, f0, f1⟩ := owni_cells f;obtain ⟨_, _, n, d0, d1⟩ := reads_two (reads_below r i);simp only [Option.some.injEq, Addr.mk.injEq, and_true] at n;obtain ⟨rfl, rfl⟩ := n;have A : l ≠ g := by omega
  go_wp2_with fail
  refine wp_loop_rounds 3 ?_;rw [rounds_succ];go_wp2_with fail
  rw [rounds_succ];go_wp2_with fail
  rw [rounds_succ];go_wp2_with fail
  go_ret
  rw [k.out];first
   | exact ⟨_, rfl, g, s, rfl, p, j, f, i⟩
   | exact ⟨_, rfl, made_put f i 0 x2⟩
   | exact ⟨_, rfl, made_put f i 1 y2⟩
   | exact ⟨_, rfl, made_put2 f i 0 1 x2 y2⟩
theorem app_own {B k g c : Nat} {W w1 : World} {v v' : Value} {rs : List Rw} {xs : List Int} (hown : W.ownsRow B 28 1 v k (rs.map Rw.v)) (hin : Inn B W.heap.size W (rs ++ [⟨g, c, xs⟩]))
    (hown' : w1.ownsRow B 28 1 v' (k + 1) (rs.map Rw.v ++ [sL (some ⟨g, 0, none⟩) xs.length c])) (hgrow : W.grownBy w1 v.ownBlock) :
    w1.ownsRow B 28 1 v' (k + 1) ((rs ++ [(⟨g, c, xs⟩ : Rw)]).map Rw.v) ∧ Inn B w1.heap.size w1 (rs ++ [(⟨g, c, xs⟩ : Rw)]) := by
 refine ⟨by rw [List.map_append]; exact hown', ?_⟩;refine inn_mono (inn_block hin fun i r hr => ?_) hgrow.size;have o := (hin.1 i r hr).1;refine hgrow.block _ (owni_lt o).2 ?_;rcases hown.2 with ⟨rfl, _⟩ | ⟨G, d, b, rfl, hb, f, rest⟩
 ·simp [Value.ownBlock]
 ·obtain ⟨c2, a⟩ := own_type o;simp only [Value.ownBlock, ne_eq, Option.some.injEq];intro e;rw [e, f] at a;simp at a
theorem shape_of {w : World} {B : Nat} {e : TypeId} {v : Value} {n : Nat} {xs : List Value} (h : w.ownsRow B e 1 v n xs) (hv : v ≠ sL none 0 0) :
    ∃ g a, v = sL (some ⟨g, 0, none⟩) n a ∧ B ≤ g ∧ g < w.heap.size := by
 rcases h.2 with ⟨rfl, _⟩ | ⟨g, a, c, rfl, b, d, _⟩
 ·exact absurd rfl hv
 ·exact ⟨g, a, rfl, b, (ltH d)⟩
theorem specMemoryOk_any (a : Option Addr) (xss : List (List Int)) (cap : Nat) (w : World) (h : ReadsM w a xss) (hm : xss.length ≤ 2305843009213693952) :
    Calls Tryz.prog 54 #[sL a xss.length cap] w fun e g => e = .returned (.bool (memOk xss)) ∧ g = w := by
 go_enter Tryz.func54, Tryz.ntmps54;go_wp2;go_loop [3] (fun i => ∃ k : Nat, k ≤ xss.length ∧ i = nI k ∧ ∀ (i : Nat) f, i < k → xss[i]? = some f → isL f = true) (fun i => xss.length - (intOf i).toNat)
 case atStart => exact ⟨0, Nat.zero_le _, rfl, fun i f hi => absurd hi (Nat.not_lt_zero _)⟩
 case round =>
  obtain ⟨k, hk, rfl, c⟩ := hrel;by_cases n : k < xss.length
  ·have v : (k : Int) < (xss.length : Int) := by omega
   obtain ⟨f, m⟩ := get_of_lt n;obtain ⟨b, A, y, cj, rfl, g1, o⟩ := readsM_at h m;have q : Hid (Reads w y f) := o;have p : Hid (xss[k]? = some f) := m;have z : Hid _ := c;clear h o m c;cases j : isL f
   ·have s := memOk_not p.out j;go_wp2_with (go_at_call 103; refine (specLineOk_any _ f _ _ q.out).mono ?_; rintro e g ⟨rfl, d⟩; rw [d, j]; clear d g)
    go_ret
    exact ⟨ret_bool (by first | rfl | exact s.symm | simp [s]), rfl⟩
   ·go_wp2_with (go_at_call 103; refine (specLineOk_any _ f _ _ q.out).mono ?_; rintro e g ⟨rfl, d⟩; rw [d, j]; clear d g)
    go_round
    case rel =>
     refine ⟨k + 1, by omega, by go_num, fun i ys hi hy => ?_⟩;by_cases e : i = k
     ·subst e;rw [p.out] at hy;cases hy;exact j
     ·exact z.out i ys (by omega) hy
    case measure => simp [intOf]; omega
  ·have l : k = xss.length := by omega
   subst l;have B : Hid (betw (xss.length : Int) 1 16 = memOk xss) := by
    unfold Hid;cases r : betw (xss.length : Int) 1 16
    ·unfold memOk; rw [r]; rfl
    ·exact (memOk_all r c).symm
   clear c;go_wp2_with (go_at_call 58; refine (l1In_any _ _ _ _).mono ?_; rintro e g ⟨rfl, rfl⟩)
   go_ret
   exact ⟨ret_bool B.out, rfl⟩
end Go.Proofs.YtmaopldahnejdaaGreatDoor
