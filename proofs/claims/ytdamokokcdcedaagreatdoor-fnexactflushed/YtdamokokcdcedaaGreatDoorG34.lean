import Derived.Test.YtdamokokcdcedaaGreatDoorG00Box
import Derived.Test.YtdamokokcdcedaaGreatDoorG33
namespace Go.Proofs.YtdamokokcdcedaaGreatDoor
set_option maxHeartbeats 4000000
open Go.ChangeShapes Go.WideShapes Go.ChangeAt Go.RowKit
def pr (zs : List Int) (j : Nat) : List Int := [zs.getD (j * 2) 0, zs.getD (j * 2 + 1) 0]
def prs (zs : List Int) (n : Nat) : List (List Int) := (List.range n).map (pr zs)
theorem Tryz.sizeI : (Tryz.prog.info? 2).map (·.size) = some 1 := by kernel_rfl
theorem copied_two {B g cap : Nat} {w : World} {zs : List Int} (h : OwnI B w g cap zs) (o : Nat) (x y : Int) :
    OwnI B (w.setCells g o [nI x, nI y]) g cap ((zs.set o x).set (o + 1) y) ∧ w.grownBy (w.setCells g o [nI x, nI y]) (some g) := by
 have b := World.ownsRow.stored h o (nI x);have a := World.ownsRow.stored b.1 (o + 1) (nI y);refine ⟨?_, grown_trans b.2 a.2⟩;unfold OwnI;rw [List.length_set, List.length_set, List.map_set, List.map_set];exact a.1
theorem owni_at {B g cap : Nat} {w : World} {zs : List Int} (h : OwnI B w g cap zs) (i : Nat) (hi : i < zs.length) : w.cell? ⟨g, i, none⟩ = some (nI (zs.getD i 0)) := by
 rw [World.ownsRow.cellAt h i (by omega)];simp [List.getD_eq_getElem?_getD, hi]
theorem run_copy_two (w : World) (ty : TypeId) (b o : Nat) (B cap : Nat) (zs : List Int) (a : Addr) (dc sc : Nat) (x y : Int) (h : OwnI B w b cap zs) (ho : o + 2 ≤ zs.length)
    (h0 : w.cell? a = some (nI x)) (h1 : w.cell? (a.add 1) = some (nI y)) :
    (Builtin.copy_ #[68, 68] ty #[sL (some ⟨b, o, none⟩) 2 dc, sL (some a) 2 sc]).run Tryz.prog w = .ok (nI 2) (w.setCells b o [nI x, nI y]) := by
 refine run_copy_cells (P := Tryz.prog) w 68 68 ty 2 b o 2 dc a 2 sc [nI x, nI y] Tryz.underlying68 Tryz.sizeI rfl ?_ ?_ ?_ ?_
 ·intro j v c;match j, c with
  | 0, c => simp at c; subst c; rw [show a.add 0 = a from by simp [Addr.add]]; exact h0
  | 1, c => simp at c; subst c; exact h1
 ·intro j c;rw [owni_at h (o + j) (by simp at c; omega)];rfl
 ·intro j _;exact World.ownsRow.frozenAt h (o + j)
 ·intro v d;simp at d
  rcases d with rfl | rfl <;> rfl
theorem lineAt_any (B g cap j : Nat) (zs : List Int) (w : World) (h : OwnI B w g cap zs) (hj : j * 2 + 2 ≤ zs.length) (hz : zs.length ≤ 32) :
    Calls Tryz.prog 98 #[sL (some ⟨g, 0, none⟩) zs.length cap, nI j] w fun e i => ∃ v, e = .returned v ∧ Made w i v (pr zs j) := by
 have c := Go.run_make_row' (P := Tryz.prog) 68 2 (nI 0) 8 Tryz.underlying68 Tryz.infoI rfl .i64 .i64 2 (by omega) (by omega);have l : ((2 : Nat) : Int) = 2 := rfl;simp only [l] at c;have hc := (owni_cap h).1;have O := owni_lit w (madeCells #[nI 0] 2) [0, 0] (made_zeroM 2) (by unfold maxLen; simp);have d : OwnI B (w.alloc (.cells (madeCells #[nI 0] 2) 2)) g cap zs := World.ownsRow.alloc h _;have b := owni_at d (j * 2) (by omega);have f := owni_at d (j * 2 + 1) (by omega);unfold pr;generalize zs.getD (j * 2) 0 = x at b ⊢;generalize zs.getD (j * 2 + 1) 0 = y at f ⊢;have n := run_copy_two _ 3 w.heap.size 0 w.heap.size 2 [0, 0] ⟨g, j * 2, none⟩ 2 2 _ _ O (by simp) b f;have a : Hid _ := copied_two O 0 x y;clear d b f O;generalize o : (w.alloc (.cells (madeCells #[nI 0] 2) 2)).setCells w.heap.size 0 [nI x, nI y] = W at n a;clear o;go_enter Tryz.func98, Tryz.ntmps98;go_wp2_with (go_at_call 92; refine (cut_any _ _ _ _ _ (by omega) (by omega)).mono ?_; rintro e i ⟨rfl, rfl⟩)
 go_ret
 refine ⟨_, rfl, w.heap.size, 2, rfl, Nat.le_refl _, ?_, a.out.1, ?_⟩
 ·exact (owni_lt a.out.1).2
 ·exact ((Below.refl _ _).alloc (Nat.le_refl _) _).grown a.out.2 (by simp) (by intro k m; cases m; exact Nat.le_refl _)
theorem prs_push {zs : List Int} {rs : List Rw} {k g c : Nat} (h : rs.map Rw.xs = prs zs k) : (rs ++ [(⟨g, c, pr zs k⟩ : Rw)]).map Rw.xs = prs zs (k + 1) := by
 rw [List.map_append, h];simp [prs, List.range_succ]
theorem prs_len (zs : List Int) (n : Nat) : (prs zs n).length = n := by simp [prs]
theorem memory_any (B g cap n : Nat) (zs : List Int) (w : World) (h : OwnI B w g cap zs) (hz : zs.length = n * 2) (hn : n ≤ 16) :
    Calls Tryz.prog 38 #[sL (some ⟨g, 0, none⟩) zs.length cap] w fun e w' => ∃ v, e = .returned v ∧ MadeM w w' v (prs zs n) := by
 have r := Go.run_make_row' (P := Tryz.prog) 24 68 (sL none 0 0) 24 Tryz.underlying24 Tryz.infoS rfl .i64 .i64 n (by omega) (by omega);have o : Hid (zs.length = n * 2) := hz;clear hz;go_enter Tryz.func38, Tryz.ntmps38;go_wp2_with fail
 refine (rowLines_any _ n _ _ _ hn o.out).mono ?_;rintro e w1 ⟨rfl, d⟩;rw [d];clear d w1;go_wp2;go_loopw [10] (fun i wr => ∃ k : Nat, k ≤ n ∧ i = nI k ∧ ∃ j : List Rw, j.map Rw.xs = prs zs k ∧ Out w.heap.size wr w.heap.size n n (j.map Rw.v ++ (madeCells #[sL none 0 0] n).toList.drop k) ∧ Inn w.heap.size wr.heap.size wr j ∧ Bl w wr)
  (fun i _ => n - (intOf i).toNat)
 case atStart => exact ⟨0, Nat.zero_le _, rfl, [], rfl, by simpa using out_made w n (by unfold maxLen; omega), inn_nil _ _ _, (Below.refl _ _).alloc (Nat.le_refl _) _⟩
 case round =>
  obtain ⟨k, hk, rfl, j, a, l, m, f⟩ := hrel;by_cases y : k < n
  ·have C : (k : Int) < (n : Int) := by omega
   have b : j.length = k := by have := congrArg List.length a; simpa [prs_len] using this
   have I : Hid (∀ w1 v, Made wr w1 v (pr zs k) → _) := fun w1 v hm => fill_step (v := v) (w1 := w1) b y (by simp [size_madeCells]) l m f hm;have H : Hid (∀ g c, _) := fun g c => prs_push (g := g) (c := c) a;have G : Hid (OwnI B wr g cap zs) := owni_below h f (owni_lt h).2;clear h l m f a r b;go_wp2_with (go_at_call 98; refine (lineAt_any _ _ _ _ _ _ G.out (by have := o.out; omega) (by have := o.out; omega)).mono ?_; rintro e w1 ⟨v, rfl, D⟩; obtain ⟨g, c, rfl, ⟨v0, J⟩, K, F, E, A⟩ := I.out _ _ D; have s : Hid _ := F; have p : Hid _ := E; have q : Hid _ := A; clear F E A D)
   go_roundw
   case rel => exact ⟨k + 1, by omega, by go_num, _, H.out g c, s.out, p.out, q.out⟩
   case measure => simp [intOf]; omega
  ·have b : k = n := by omega
   subst b;have z := fill_end a (prs_len _ _) (by simp [size_madeCells]) l m f;rw [prs_len] at z;clear l m f;go_wp2;go_ret
   exact ⟨_, rfl, z⟩
theorem pr_set (zs : List Int) (k i : Nat) (x y : Int) (h : k * 2 + 1 < zs.length) : pr ((zs.set (k * 2) x).set (k * 2 + 1) y) i = if i = k then [x, y] else pr zs i := by
 unfold pr;by_cases e : i = k
 ·subst e;simp [List.getD_eq_getElem?_getD, show i * 2 < zs.length by omega, h]
 ·rw [if_neg e];have b : ¬ k * 2 = i * 2 := by omega
  have d : ¬ k * 2 + 1 = i * 2 := by omega
  have c : ¬ k * 2 = i * 2 + 1 := by omega
  have a : ¬ k * 2 + 1 = i * 2 + 1 := by omega
  rw [List.getD_eq_getElem?_getD, List.getD_eq_getElem?_getD, List.getElem?_set_ne d, List.getElem?_set_ne b, List.getElem?_set_ne a, List.getElem?_set_ne c, ← List.getD_eq_getElem?_getD, ← List.getD_eq_getElem?_getD]
theorem prs_get {zs : List Int} {n i : Nat} (h : i < n) : (prs zs n)[i]? = some (pr zs i) := by simp [prs, h]
theorem grown_of_below {w w' : World} (h : Bl w w') (r : Option Nat) : w.grownBy w' r := ⟨h.os, h.tape, h.output, h.size, fun k hk _ => h.block k hk⟩
theorem reads_pr {B g cap j : Nat} {w : World} {zs : List Int} (h : OwnI B w g cap zs) (hj : j * 2 + 2 ≤ zs.length) : Reads w (some ⟨g, j * 2, none⟩) (pr zs j) := by
 refine .inr ⟨g, j * 2, rfl, fun i hi => ?_⟩;have a : i < 2 := hi;obtain rfl | rfl : i = 0 ∨ i = 1 := by omega
 ·exact owni_at h (j * 2) (by omega)
 ·exact owni_at h (j * 2 + 1) (by omega)
theorem run_copy_no (w : World) (ty : TypeId) (b o : Nat) (a : Addr) (dc sc : Nat) :
    (Builtin.copy_ #[68, 68] ty #[sL (some ⟨b, o, none⟩) 2 dc, sL (some a) 0 sc]).run Tryz.prog w = .ok (nI 0) w :=
 run_copy_none (P := Tryz.prog) w 68 68 ty 2 _ _ _ _ _ _ Tryz.underlying68 Tryz.sizeI rfl
theorem write_not (B g cap n c j : Nat) (zs ys : List Int) (a : Option Addr) (m : Int) (w : World) (h : OwnI B w g cap zs) (hr : Reads w a ys) (hz : zs.length = n * 2) (hn : n ≤ 16) (hj : j < n)
    (hm : (isL (pr zs j) && isL ys && betw m 0 3) = false) :
    Calls Tryz.prog 37 #[sL (some ⟨g, 0, none⟩) zs.length cap, nI j, sL a ys.length c, nI m] w fun e d => e = .returned (.bool false) ∧ Bl w d := by
 have hk : betw (j : Int) 0 ((n : Int) - 1) = true := by simp [betw]; omega
 have hc := (owni_cap h).1;have i : maskL (pr zs j) ys m = [] := by unfold maskL; rw [hm]; rfl
 have r : Hid (Reads w (some ⟨g, j * 2, none⟩) (pr zs j)) := reads_pr h (by omega);have l : Hid (zs.length = n * 2) := hz;have f : j * 2 + 2 ≤ cap := by omega
 have y : Hid _ := i;clear hz i hm h;go_enter Tryz.func37, Tryz.ntmps37
 go_wp2_with (first
  | (go_at_call 95; refine (rowHas_any _ n _ _ _ _ hn l.out).mono ?_; rintro e d ⟨rfl, b⟩; rw [b]; clear b d)
  | (go_at_call 92; refine (cut_any _ _ _ _ _ (by omega) f).mono ?_; rintro e d ⟨rfl, b⟩; rw [b]; clear b d))
 refine (implMasked_any _ _ (pr zs j) ys 2 c m w r.out hr).mono ?_;rintro e o ⟨v, rfl, k⟩;rw [y.out] at k;obtain ⟨p, z, rfl, l1, s, o1, q⟩ := k;have CP := run_copy_no o 3 g (j * 2) ⟨p, 0, none⟩ 2 z;go_wp2;go_ret
 exact ⟨rfl, q⟩
theorem write_yes (B g cap n c j : Nat) (zs ys : List Int) (a : Option Addr) (m p q : Int) (w : World) (h : OwnI B w g cap zs) (hr : Reads w a ys) (hz : zs.length = n * 2) (hn : n ≤ 16) (hj : j < n)
    (he : maskL (pr zs j) ys m = [p, q]) :
    Calls Tryz.prog 37 #[sL (some ⟨g, 0, none⟩) zs.length cap, nI j, sL a ys.length c, nI m] w fun e d => e = .returned (.bool true) ∧
     OwnI B d g cap ((zs.set (j * 2) p).set (j * 2 + 1) q) ∧ w.grownBy d (some g) := by
 have hk : betw (j : Int) 0 ((n : Int) - 1) = true := by simp [betw]; omega
 have hc := (owni_cap h).1;have s : Hid (Reads w (some ⟨g, j * 2, none⟩) (pr zs j)) := reads_pr h (by omega);have l : Hid (zs.length = n * 2) := hz;have k : j * 2 + 2 ≤ cap := by omega
 have D : Hid _ := he;clear hz he;go_enter Tryz.func37, Tryz.ntmps37
 go_wp2_with (first
  | (go_at_call 95; refine (rowHas_any _ n _ _ _ _ hn l.out).mono ?_; rintro e d ⟨rfl, b⟩; rw [b]; clear b d)
  | (go_at_call 92; refine (cut_any _ _ _ _ _ (by omega) k).mono ?_; rintro e d ⟨rfl, b⟩; rw [b]; clear b d))
 refine (implMasked_any _ _ (pr zs j) ys 2 c m w s.out hr).mono ?_;rintro e o ⟨v, rfl, z⟩;rw [D.out] at z;obtain ⟨A, E, rfl, l1, C, y, r⟩ := z;have f := owni_below h r (owni_lt h).2;have F := run_copy_two o 3 g (j * 2) B cap zs ⟨A, 0, none⟩ 2 E p q f (by have := l.out; omega) (owni_at y 0 (by simp)) (owni_at y 1 (by simp));have i : Hid _ := copied_two f (j * 2) p q;clear f h s;generalize G : o.setCells g (j * 2) [nI p, nI q] = W at F i;clear G;go_wp2;go_ret
 exact ⟨rfl, i.out.1, grown_trans (grown_of_below r _) i.out.2⟩
def memOk (xss : List (List Int)) : Bool := betw xss.length 1 16 && xss.all isL
theorem memOk_not {xss : List (List Int)} {k : Nat} {xs : List Int} (hx : xss[k]? = some xs) (hn : isL xs = false) : memOk xss = false := by
 unfold memOk;rw [Bool.and_eq_false_iff];right
 rw [List.all_eq_false];exact ⟨xs, List.mem_of_getElem? hx, by simp [hn]⟩
theorem memOk_all {xss : List (List Int)} (hl : betw xss.length 1 16 = true) (h : ∀ (i : Nat) a, i < xss.length → xss[i]? = some a → isL a = true) : memOk xss = true := by
 unfold memOk;rw [hl, Bool.true_and, List.all_eq_true];intro a c;obtain ⟨i, b, rfl⟩ := List.mem_iff_getElem.1 c;exact h i _ b (List.getElem?_eq_getElem b)
theorem prs_all {xss : List (List Int)} {zs : List Int} (h : ∀ (i : Nat) a, i < xss.length → xss[i]? = some a → pr zs i = a) : prs zs xss.length = xss := by
 apply List.ext_getElem?
 intro i;by_cases b : i < xss.length
 ·obtain ⟨a, c⟩ := get_of_lt b;rw [prs_get b, c, h i a b c]
 ·rw [List.getElem?_eq_none (by rw [prs_len]; omega), List.getElem?_eq_none (by omega)]
theorem rowOf_any (a : Option Addr) (xss : List (List Int)) (cap : Nat) (w : World) (h : ReadsM w a xss) (hm : xss.length ≤ 9223372036854775807) :
    Calls Tryz.prog 33 #[sL a xss.length cap] w fun e q => ∃ v, e = .returned (.tuple #[v, .bool (memOk xss)]) ∧ Bl w q ∧
     (memOk xss = true → ∃ l, l.length = xss.length * 2 ∧ prs l xss.length = xss ∧ Made w q v l) := by
 cases J : betw xss.length 1 16
 ·have C : memOk xss = false := by unfold memOk; rw [J]; rfl
  rw [C];go_enter Tryz.func33, Tryz.ntmps33;go_wp2_with (go_at_call 89; refine (linesOk_any _ _).mono ?_; rintro e q ⟨rfl, rfl⟩)
  go_ret2
  exact ⟨_, rfl, (Below.refl _ _).alloc (Nat.le_refl _) _, fun h => by cases h⟩
 ·have I : 1 ≤ xss.length ∧ xss.length ≤ 16 := by simp [betw] at J; omega
  go_enter Tryz.func33, Tryz.ntmps33;go_wp2_with (go_at_call 89; refine (linesOk_any _ _).mono ?_; rintro e q ⟨rfl, m⟩; rw [m]; clear m q)
  refine (newRow_any _ _ I.2).mono ?_;rintro e w1 ⟨v, rfl, g, c, rfl, l1, K, Y, T⟩;go_wp2_with fail
  go_loopw [18] (fun i wr => ∃ k : Nat, k ≤ xss.length ∧ i = nI k ∧ ∃ l : List Int, l.length = xss.length * 2 ∧ (∀ (i : Nat) d, i < k → xss[i]? = some d → pr l i = d ∧ isL d = true) ∧ OwnI w.heap.size wr g c l ∧ Bl w wr)
   (fun i _ => xss.length - (intOf i).toNat)
  case atStart => exact ⟨0, Nat.zero_le _, rfl, _, by simp, fun i d s => absurd s (Nat.not_lt_zero _), Y, T⟩
  case round =>
   obtain ⟨k, hk, rfl, l, F, f, r, z⟩ := hrel;clear Y T K;by_cases N : k < xss.length
   ·have aA : (k : Int) < (xss.length : Int) := by omega
    obtain ⟨d, n⟩ := get_of_lt N;obtain ⟨b, mA, aj, cj, rfl, g1, V⟩ := readsM_at (readsM_below h z) n;have E : Hid (Reads wr aj d) := V;have M : Hid (xss[k]? = some d) := n;have X : Hid _ := f;have o : Hid (l.length = xss.length * 2) := F;clear h V n f F;go_wp2_with fail
    refine (implLineOk_any _ d _ _ E.out).mono ?_;rintro e w2 ⟨rfl, A⟩;have G := below_step z A;rcases isL_cases d with S | ⟨x, y, rfl, n, hy⟩
    ·rw [S];have C := memOk_not M.out S;clear M X E r z A;go_wp2;rw [C];go_ret2
     exact ⟨_, rfl, G.alloc G.size _, fun h => by cases h⟩
    ·have D := isL_yes n hy;rw [D];have H := owni_below r A (owni_lt r).2;have Z := reads_below E.out A;obtain ⟨b', B, rfl, q1, U⟩ := reads_two Z;have CP := run_copy_two w2 3 g (k * 2) w.heap.size c l ⟨b', B, none⟩ 2 cj x y H (by have := o.out; omega) q1 (by simpa [Addr.add] using U);have L : Hid _ := copied_two H (k * 2) x y;have R : k * 2 + 2 ≤ c := by have := (owni_cap H).1; have := o.out; omega
     clear E r z A Z q1 U H;generalize hW : w2.setCells g (k * 2) [nI x, nI y] = W at CP L;clear hW;go_wp2_with (go_at_call 92; refine (cut_any _ _ _ _ _ (by omega) R).mono ?_; rintro e q ⟨rfl, m⟩; rw [m]; clear m q)
     go_roundw
     case rel =>
      refine ⟨k + 1, by omega, by go_num, (l.set (k * 2) x).set (k * 2 + 1) y, by have := o.out; simpa using this, ?_, L.out.1, G.grown L.out.2 G.size (by intro j hj; cases hj; exact l1)⟩;intro i d s p;rw [pr_set l k i x y (by have := o.out; omega)];by_cases e : i = k
      ·subst e;rw [M.out] at p;cases p;exact ⟨if_pos rfl, D⟩
      ·rw [if_neg e];exact X.out i d (by omega) p
     case measure => simp [intOf]; omega
   ·have O : k = xss.length := by omega
    subst O;have C := memOk_all J (fun i d s n => (f i d s n).2);have HP : Hid _ := prs_all (fun i d s n => (f i d s n).1);have o : Hid (l.length = xss.length * 2) := F;clear F;go_wp2;rw [C];go_ret2
    exact ⟨_, rfl, z, fun _ => ⟨l, o.out, HP.out, g, c, by rw [o.out]; rfl, l1, (owni_lt r).2, r, z⟩⟩
theorem memOk_len {xss : List (List Int)} (h : memOk xss = true) : 1 ≤ xss.length ∧ xss.length ≤ 16 := by
 unfold memOk at h;rw [Bool.and_eq_true] at h;have := h.1;simp [betw] at this
 omega
theorem memOk_get {xss : List (List Int)} (h : memOk xss = true) {j : Nat} {xs : List Int} (hx : xss[j]? = some xs) : isL xs = true := by
 unfold memOk at h;rw [Bool.and_eq_true, List.all_eq_true] at h;exact h.2 xs (List.mem_of_getElem? hx)
theorem implMemoryOk_any (a : Option Addr) (xss : List (List Int)) (cap : Nat) (w : World) (h : ReadsM w a xss) (hm : xss.length ≤ 9223372036854775807) :
    Calls Tryz.prog 189 #[sL a xss.length cap] w fun e w' => e = .returned (.bool (memOk xss)) ∧ Bl w w' := by
 go_enter Tryz.func189, Tryz.ntmps189;go_wp2_with fail
 refine (rowOf_any _ xss _ _ h hm).mono ?_;rintro e w1 ⟨v, rfl, b, _⟩;go_wp2;go_ret
 exact ⟨rfl, b⟩
theorem app_own {B k g c : Nat} {W w1 : World} {v v' : Value} {rs : List Rw} {xs : List Int} (hown : W.ownsRow B 68 1 v k (rs.map Rw.v)) (hin : Inn B W.heap.size W (rs ++ [⟨g, c, xs⟩]))
    (hown' : w1.ownsRow B 68 1 v' (k + 1) (rs.map Rw.v ++ [sL (some ⟨g, 0, none⟩) xs.length c])) (hgrow : W.grownBy w1 v.ownBlock) :
    w1.ownsRow B 68 1 v' (k + 1) ((rs ++ [(⟨g, c, xs⟩ : Rw)]).map Rw.v) ∧ Inn B w1.heap.size w1 (rs ++ [(⟨g, c, xs⟩ : Rw)]) := by
 refine ⟨by rw [List.map_append]; exact hown', ?_⟩;refine inn_mono (inn_block hin fun i r hr => ?_) hgrow.size;have o := (hin.1 i r hr).1;refine hgrow.block _ (owni_lt o).2 ?_;rcases hown.2 with ⟨rfl, _⟩ | ⟨G, f, b, rfl, hb, d, rest⟩
 ·simp [Value.ownBlock]
 ·obtain ⟨c2, a⟩ := own_type o;simp only [Value.ownBlock, ne_eq, Option.some.injEq];intro e;rw [e, d] at a;simp at a
theorem shape_of {w : World} {B : Nat} {e : TypeId} {v : Value} {n : Nat} {xs : List Value} (h : w.ownsRow B e 1 v n xs) (hv : v ≠ sL none 0 0) :
    ∃ g a, v = sL (some ⟨g, 0, none⟩) n a ∧ B ≤ g ∧ g < w.heap.size := by
 rcases h.2 with ⟨rfl, _⟩ | ⟨g, a, b, rfl, c, d, _⟩
 ·exact absurd rfl hv
 ·exact ⟨g, a, rfl, c, (ltH d)⟩
theorem inn_set {lo hi hi' g c j : Nat} {w : World} {rs : List Rw} {xs : List Int} (h : Inn lo hi w rs) (o : OwnI lo w g c xs) (hg : hi ≤ g) (hg2 : g < hi') : Inn lo hi' w (rs.set j ⟨g, c, xs⟩) := by
 have b : ∀ (i : Nat) (r : Rw), (rs.set j ⟨g, c, xs⟩)[i]? = some r → (rs[i]? = some r ∧ i ≠ j) ∨ (i = j ∧ r = ⟨g, c, xs⟩) := by
  intro i r a;rw [List.getElem?_set] at a;split at a
  ·rename_i e
   split at a
   ·right
    simp at a
    exact ⟨e.symm, a.symm⟩
   ·cases a
  ·rename_i e
   exact .inl ⟨a, fun e' => e e'.symm⟩
 refine ⟨fun i r a => ?_, fun i k r s a hs e => ?_⟩
 ·rcases b i r a with ⟨d, l⟩ | ⟨d, rfl⟩
  ·have := h.1 i r d;exact ⟨this.1, by omega⟩
  ·exact ⟨o, hg2⟩
 ·rcases b i r a with ⟨d, l⟩ | ⟨d, rfl⟩ <;> rcases b k s hs with ⟨f, b2⟩ | ⟨f, rfl⟩
  ·exact h.2 i k r s d f e
  ·have := (h.1 i r d).2; simp at e; omega
  ·have := (h.1 k s f).2; simp at e; omega
  ·omega
theorem ownM_set {lo hi hi' G cap g c j : Nat} {w : World} {xss : List (List Int)} {xs : List Int} (h : OwnM lo hi w G cap xss) (o : OwnI lo w g c xs) (hg : hi ≤ g) (hg2 : g < hi') (hj : j < xss.length) :
    (∃ v0, w.cell? ⟨G, j, none⟩ = some v0) ∧ w.frozen? ⟨G, j, none⟩ = false ∧
    OwnM lo hi' (w.setCell ⟨G, j, none⟩ (sL (some ⟨g, 0, none⟩) xs.length c)) G cap (xss.set j xs) ∧ w.grownBy (w.setCell ⟨G, j, none⟩ (sL (some ⟨g, 0, none⟩) xs.length c)) (some G) := by
 obtain ⟨d, rfl, a, h3, b⟩ := h;have R := World.ownsRow.stored a j (sL (some ⟨g, 0, none⟩) xs.length c);refine ⟨?_, World.ownsRow.frozenAt a j, ⟨d.set j ⟨g, c, xs⟩, List.map_set, ?_, by omega, ?_⟩, R.2⟩
 ·rw [World.ownsRow.cellAt a j (by omega)];exact ⟨_, List.getElem?_eq_getElem (by have := a.1; omega)⟩
 ·rw [List.length_set, List.map_set];exact R.1
 ·exact inn_out (inn_set b o hg hg2) a R.2
theorem specMemoryOk_any (a : Option Addr) (xss : List (List Int)) (cap : Nat) (w : World) (h : ReadsM w a xss) (hm : xss.length ≤ 2305843009213693952) :
    Calls Tryz.prog 128 #[sL a xss.length cap] w fun e g => e = .returned (.bool (memOk xss)) ∧ g = w := by
 go_enter Tryz.func128, Tryz.ntmps128;go_wp2;go_loop [3] (fun i => ∃ k : Nat, k ≤ xss.length ∧ i = nI k ∧ ∀ (i : Nat) f, i < k → xss[i]? = some f → isL f = true) (fun i => xss.length - (intOf i).toNat)
 case atStart => exact ⟨0, Nat.zero_le _, rfl, fun i f hi => absurd hi (Nat.not_lt_zero _)⟩
 case round =>
  obtain ⟨k, hk, rfl, c⟩ := hrel;by_cases m : k < xss.length
  ·have s : (k : Int) < (xss.length : Int) := by omega
   obtain ⟨f, l⟩ := get_of_lt m;obtain ⟨b, B, y, cj, rfl, g1, p⟩ := readsM_at h l;have o : Hid (Reads w y f) := p;have v : Hid (xss[k]? = some f) := l;have z : Hid _ := c;clear h p l c;cases j : isL f
   ·have r := memOk_not v.out j;go_wp2_with (go_at_call 131; refine (specLineOk_any _ f _ _ o.out).mono ?_; rintro e g ⟨rfl, d⟩; rw [d, j]; clear d g)
    go_ret
    exact ⟨ret_bool (by first | rfl | exact r.symm | simp [r]), rfl⟩
   ·go_wp2_with (go_at_call 131; refine (specLineOk_any _ f _ _ o.out).mono ?_; rintro e g ⟨rfl, d⟩; rw [d, j]; clear d g)
    go_round
    case rel =>
     refine ⟨k + 1, by omega, by go_num, fun i ys hi hy => ?_⟩;by_cases e : i = k
     ·subst e;rw [v.out] at hy;cases hy;exact j
     ·exact z.out i ys (by omega) hy
    case measure => simp [intOf]; omega
  ·have n : k = xss.length := by omega
   subst n;have A : Hid (betw (xss.length : Int) 1 16 = memOk xss) := by
    unfold Hid;cases q : betw (xss.length : Int) 1 16
    ·unfold memOk; rw [q]; rfl
    ·exact (memOk_all q c).symm
   clear c;go_wp2_with (go_at_call 126; refine (l1In_any _ _ _ _).mono ?_; rintro e g ⟨rfl, rfl⟩)
   go_ret
   exact ⟨ret_bool A.out, rfl⟩
set_option linter.unusedVariables false
def houseB (x : HouseD) : Bool := memOk x.1 && (decide (x.2.length = x.1.length) && x.2.all entB)
theorem house_len {x : HouseD} (h : houseM.bk x ≤ 1048576) : x.1.length ≤ 1048576 ∧ x.2.length ≤ 1048576 := by
 have e : houseM.bk x = (x.1.length + sumbk intsM x.1) + (x.2.length + sumbk entM x.2) := rfl;omega
theorem ent_at {w : World} {a : Option Addr} {xs : List EntryD} {k : Nat} {x : EntryD} (h : SlRd entR w a xs) (hx : xs[k]? = some x) :
    ∃ b d f g, a = some ⟨b, d, none⟩ ∧ w.cell? ⟨b, d + k * 8, none⟩ = some (nI x.1) ∧ w.cell? ⟨b, d + k * 8 + 1, none⟩ = some (nI x.2.1) ∧ w.cell? ⟨b, d + k * 8 + 2, none⟩ = some (.bool x.2.2.1) ∧ w.cell? ⟨b, d + k * 8 + 3, none⟩ = some (nI x.2.2.2.1) ∧ w.cell? ⟨b, d + k * 8 + 4, none⟩ = some (nI x.2.2.2.2.1) ∧ w.cell? ⟨b, d + k * 8 + 5, none⟩ = some (nI x.2.2.2.2.2.1) ∧ w.cell? ⟨b, d + k * 8 + 6, none⟩ = some (nI x.2.2.2.2.2.2.1) ∧ w.cell? ⟨b, d + k * 8 + 7, none⟩ = some (sL f x.2.2.2.2.2.2.2.length g) ∧ SlRd intR w f x.2.2.2.2.2.2.2 := by
 obtain ⟨b, d, cs, rfl, i, c⟩ := slrd_at h hx;obtain ⟨f, g, rfl, -, -, -, -, -, -, -, -, j⟩ := ent_rd i;exact ⟨b, d, f, g, rfl, c 0 _ rfl, c 1 _ rfl, c 2 _ rfl, c 3 _ rfl, c 4 _ rfl, c 5 _ rfl, c 6 _ rfl, c 7 _ rfl, j⟩
theorem bookOk1_any (x : EntryD) (ad : Option Addr) (cp : Nat) (w : World) (h : SlRd intR w ad x.2.2.2.2.2.2.2) :
    Calls Tryz.prog 229 #[.agg #[nI x.1, nI x.2.1, .bool x.2.2.1, nI x.2.2.2.1, nI x.2.2.2.2.1, nI x.2.2.2.2.2.1, nI x.2.2.2.2.2.2.1, sL ad x.2.2.2.2.2.2.2.length cp]] w fun e w' => e = .returned (.bool (!entB x)) ∧ Bl w w' := by
 have B := box_below w (.cells #[nI x.1, nI x.2.1, .bool x.2.2.1, nI x.2.2.2.1, nI x.2.2.2.2.1, nI x.2.2.2.2.2.1, nI x.2.2.2.2.2.2.1, sL ad x.2.2.2.2.2.2.2.length cp] 101);have a : Hid _ := fun (W : World) (hb : Bl w W) => implEntryOk_any x.1 x.2.1 x.2.2.2.1 x.2.2.2.2.1 x.2.2.2.2.2.1 x.2.2.2.2.2.2.1 x.2.2.1 x.2.2.2.2.2.2.2 ad cp W (slrd_next h hb);generalize entB x = q at a ⊢;clear h;go_enter Tryz.func229, Tryz.ntmps229;go_wp2_with fail
 generalize w.alloc (.cells #[nI x.1, nI x.2.1, .bool x.2.2.1, nI x.2.2.2.1, nI x.2.2.2.2.1, nI x.2.2.2.2.2.1, nI x.2.2.2.2.2.2.1, sL ad x.2.2.2.2.2.2.2.length cp] 101) = W0 at B ⊢;refine (a.out _ B).mono ?_;rintro e w1 ⟨rfl, b⟩;go_wp2;go_ret
 exact ⟨rfl, below_step B b⟩
theorem indexBadE_any (a : Option Addr) (xs : List EntryD) (cap : Nat) (w : World) (h : SlRd entR w a xs) (hm : xs.length ≤ maxLen) :
    Calls Tryz.prog 226 #[sL a xs.length cap, .func (.func 229) #[] #[]] w fun e w' => e = .returned (nI (badP entB xs)) ∧ Bl w w' := by
 have I : xs.length ≤ 9223372036854775807 := hm;have K : Hid (∀ W, Bl w W → SlRd entR W a xs) := fun W f => slrd_keep h fun k y => f.block k y;clear h hm;go_enter Tryz.func226, Tryz.ntmps226;go_wp2;go_loopw [8] (fun i wr => ∃ k : Nat, k ≤ xs.length ∧ i = nI k ∧ (∀ j v, j < k → xs[j]? = some v → entB v = true) ∧ Bl w wr) (fun i _ => xs.length - (intOf i).toNat)
 case atStart => exact ⟨0, Nat.zero_le _, rfl, fun j v hj => by omega, Below.refl _ _⟩
 case round =>
  obtain ⟨k, y, rfl, d, c⟩ := hrel;by_cases o : k < xs.length
  ·have A : (k : Int) < (xs.length : Int) := by omega
   obtain ⟨x, n⟩ : ∃ x, xs[k]? = some x := ⟨_, List.getElem?_eq_getElem o⟩;obtain ⟨b, M, G, L, rfl, p, q, r, z, D, F, C, s, B⟩ := ent_at (K.out _ c) n;have l := bookOk1_any x G L wr B;clear B;have E : Hid (xs[k]? = some x) := n;clear n;cases f : entB x
   ·have m : Hid (badP entB xs = k) := badP_at E.out f d;rw [f] at l;go_wp2_with fail
    refine l.mono ?_;rintro e J ⟨rfl, g⟩;replace c := below_step c g;clear g p q r z D F C s;go_wp2;go_ret
    exact ⟨ret_int m.out.symm, c⟩
   ·rw [f] at l;go_wp2_with fail
    refine l.mono ?_;rintro e J ⟨rfl, g⟩;replace c := below_step c g;clear g p q r z D F C s;go_wp2;go_roundw
    case rel =>
     refine ⟨k + 1, by omega, by go_num, fun j v hj hv => ?_, c⟩;by_cases H : j < k
     ·exact d j v H hv
     ·have : j = k := by omega
      subst this;rw [E.out] at hv;cases hv;exact f
    case measure => simp [intOf]; omega
  ·have m : Hid (badP entB xs = -1) := badP_no fun j v hv => d j v (by have := (List.getElem?_eq_some_iff.1 hv).1; omega) hv;go_wp2;go_ret
   exact ⟨ret_int m.out.symm, c⟩
theorem containsBadE_any (a : Option Addr) (xs : List EntryD) (cap : Nat) (w : World) (h : SlRd entR w a xs) (hm : xs.length ≤ maxLen) :
    Calls Tryz.prog 181 #[sL a xs.length cap, .func (.func 229) #[] #[]] w fun e w' => e = .returned (.bool (!xs.all entB)) ∧ Bl w w' := by
 have d := indexBadE_any a xs cap w h hm;have b := badP_all entB xs;clear h hm;generalize badP entB xs = q at d b;generalize xs.all entB = y at b ⊢;subst b;by_cases g : q < 0
 ·have c : ¬ (0 ≤ q) := by omega
  go_enter Tryz.func181, Tryz.ntmps181;go_wp2_with fail
  refine d.mono ?_;rintro e i ⟨rfl, f⟩;go_wp2;go_ret
  exact ⟨by simp [g], f⟩
 ·have c : 0 ≤ q := by omega
  go_enter Tryz.func181, Tryz.ntmps181;go_wp2_with fail
  refine d.mono ?_;rintro e i ⟨rfl, f⟩;go_wp2;go_ret
  exact ⟨by simp [g], f⟩
theorem implBookOk_any (a : Option Addr) (xs : List EntryD) (cap : Nat) (w : World) (h : SlRd entR w a xs) (hm : xs.length ≤ maxLen) :
    Calls Tryz.prog 190 #[sL a xs.length cap] w fun e w' => e = .returned (.bool (xs.all entB)) ∧ Bl w w' := by
 have b := containsBadE_any a xs cap w h hm;generalize xs.all entB = y at b ⊢;clear h hm;go_enter Tryz.func190, Tryz.ntmps190;go_wp2_with fail
 refine b.mono ?_;rintro e w1 ⟨rfl, c⟩;go_wp2;go_ret
 exact ⟨by simp, c⟩
theorem implHouseOk_u (cs : List Value) (x : HouseD) (w : World) (h : houseR.rd w cs x) :
    Calls Tryz.prog 146 #[aggV cs] w fun e w' => e = .returned (.bool (houseB x)) ∧ Bl w w' := by
 obtain ⟨v0, v1, rfl, ⟨b, f, o, j, i, A⟩, ⟨c, d, y, l, k, v⟩⟩ := house_rd h;simp only [List.cons.injEq, and_true] at o y;obtain rfl := o;obtain rfl := y;clear h;change Calls Tryz.prog 146 #[.agg #[sL b x.1.length f, sL c x.2.length d]] w _
 have p : Hid _ := fun (W : World) (hb : Bl w W) => implMemoryOk_any b x.1 f W (readsM_of (slrd_next A hb)) (Nat.le_trans j i);have z : Hid _ := fun (W : World) (hb : Bl w W) => implBookOk_any c x.2 d W (slrd_next v hb) (Nat.le_trans l k);have F : x.1.length ≤ 9223372036854775807 := Nat.le_trans j i;have E : x.2.length ≤ 9223372036854775807 := Nat.le_trans l k;clear A v j i l k;have X := heap_at w (.cells #[sL b x.1.length f, sL c x.2.length d] 41);have B := box_below w (.cells #[sL b x.1.length f, sL c x.2.length d] 41);unfold houseB;generalize memOk x.1 = q at p ⊢;generalize x.2.all entB = r at z ⊢;generalize x.1.length = n at *;generalize x.2.length = m at *;go_enter Tryz.func146, Tryz.ntmps146;go_wp2_with fail
 generalize w.alloc (.cells #[sL b n f, sL c m d] 41) = W0 at X B ⊢;refine (p.out _ B).mono ?_;rintro e w1 ⟨rfl, a⟩;replace X := row_keep a X;replace B := below_step B a;clear a;obtain ⟨C, D⟩ := cells_house X;cases q
 ·clear X;go_wp2;go_ret
  exact ⟨rfl, B⟩
 ·by_cases s : m = n
  ·subst s;have g : ((m : Int) == (m : Int)) = true := by simp
   go_wp2_with fail
   refine (z.out _ B).mono ?_;rintro e w2 ⟨rfl, a⟩;replace B := below_step B a;clear a X C D;go_wp2;go_ret
   exact ⟨by simp, B⟩
  ·have g : ((m : Int) == (n : Int)) = false := by simp; omega
   clear X;go_wp2;go_ret
   exact ⟨by simp [s], B⟩
theorem specHouseOk_u (cs : List Value) (x : HouseD) (w : World) (h : houseR.rd w cs x) (I : houseM.bk x ≤ 1048576) :
    Calls Tryz.prog 67 #[aggV cs] w fun e w' => e = .returned (.bool (houseB x)) ∧ Bl w w' := by
 obtain ⟨v0, v1, rfl, ⟨d, f, T, l1, l2, q0⟩, ⟨g, z, H, m1, m2, q1⟩⟩ := house_rd h;simp only [List.cons.injEq, and_true] at T H;obtain rfl := T;obtain rfl := H;clear h;obtain ⟨S, qA⟩ := house_len I;change Calls Tryz.prog 67 #[.agg #[sL d x.1.length f, sL g x.2.length z]] w _
 have p : Hid (∀ W, Bl w W → Calls Tryz.prog 128 #[sL d x.1.length f] W fun e w' => e = .returned (.bool (memOk x.1)) ∧ Bl W w') := fun W l => (specMemoryOk_any d x.1 f W (readsM_of (slrd_next q0 l)) (by omega)).mono fun e w' ⟨q, r⟩ => ⟨q, be_eq r⟩;have HE : Hid (∀ W, Bl w W → SlRd entR W g x.2) := fun W l => slrd_next q1 l;clear q0 q1 l1 l2 m1 m2 I;have X := heap_at w (.cells #[sL d x.1.length f, sL g x.2.length z] 41);have B := box_below w (.cells #[sL d x.1.length f, sL g x.2.length z] 41);have K : Hid (memOk x.1 = false → houseB x = false) := fun e => by unfold houseB; rw [e]; rfl
 have N : Hid (¬ x.2.length = x.1.length → houseB x = false) := fun e => by unfold houseB; simp [e]
 have HB : Hid (∀ j u, x.2[j]? = some u → entB u = false → houseB x = false) := fun j u hu e => by
  have : x.2.all entB = false := by
   cases hh : x.2.all entB
   ·rfl
   ·rw [List.all_eq_true] at hh;rw [hh u (List.mem_of_getElem? hu)] at e;cases e
  unfold houseB;simp [this]
 have M : Hid (memOk x.1 = true → x.2.length = x.1.length → (∀ j u, x.2[j]? = some u → entB u = true) → houseB x = true) := fun H e2 e3 => by
  have : x.2.all entB = true := List.all_eq_true.2 fun u hu => by
   obtain ⟨j, J⟩ := List.getElem?_of_mem hu;exact e3 j u J
  unfold houseB;simp [H, e2, this]
 cases a : memOk x.1
 ·rw [K.out a];rw [a] at p;generalize x.1.length = n at *;generalize x.2.length = m at *;go_enter Tryz.func67, Tryz.ntmps67;go_wp2_with fail
  generalize w.alloc (.cells #[sL d n f, sL g m z] 41) = W0 at X B ⊢;refine (p.out _ B).mono ?_;rintro e V ⟨rfl, c⟩;replace B := below_step B c;clear c X;go_wp2;go_ret
  exact ⟨rfl, B⟩
 by_cases s : x.2.length = x.1.length
 ·rw [a] at p;have L : Hid ((∀ j u, x.2[j]? = some u → entB u = true) → houseB x = true) := M.out a s;rw [← s] at p X B ⊢;clear M K N a S s;go_enter Tryz.func67, Tryz.ntmps67;go_wp2_with fail
  generalize w.alloc (.cells #[sL d x.2.length f, sL g x.2.length z] 41) = W0 at X B ⊢;refine (p.out _ B).mono ?_;rintro e V ⟨rfl, c⟩;replace X := row_keep c X;replace B := below_step B c;clear c;obtain ⟨C, D⟩ := cells_house X;go_wp2;clear C D;go_loopw [3] (fun i wr => ∃ k : Nat, k ≤ x.2.length ∧ i = nI k ∧ (∀ j v, j < k → x.2[j]? = some v → entB v = true) ∧ Bl w wr ∧ wr.heap[w.heap.size]? = some (.cells #[sL d x.2.length f, sL g x.2.length z] 41 (0, 0))) (fun i _ => x.2.length - (intOf i).toNat)
  case atStart => exact ⟨0, Nat.zero_le _, rfl, fun j v J => by omega, B, X⟩
  case round =>
   obtain ⟨k, I, rfl, E, o, G⟩ := hrel;obtain ⟨C, D⟩ := cells_house G;by_cases R : k < x.2.length
   ·have cA : (k : Int) < (x.2.length : Int) := by omega
    obtain ⟨y, O⟩ : ∃ y, x.2[k]? = some y := ⟨_, List.getElem?_eq_getElem R⟩;obtain ⟨b, DA, ad, cp, rfl, Z, Y, z2, z3, z4, z5, z6, U, hd⟩ := ent_at (HE.out _ o) O;have F := specEntryOk_any y.1 y.2.1 y.2.2.2.1 y.2.2.2.2.1 y.2.2.2.2.2.1 y.2.2.2.2.2.2.1 y.2.2.1 y.2.2.2.2.2.2.2 ad cp wr hd;rw [show entB (y.1, y.2.1, y.2.2.1, y.2.2.2.1, y.2.2.2.2.1, y.2.2.2.2.2.1, y.2.2.2.2.2.2.1, y.2.2.2.2.2.2.2) = entB y from rfl] at F;have HX : Hid (x.2[k]? = some y) := O;clear O hd;cases l : entB y
    ·rw [l] at F;go_wp2_with fail
     refine F.mono ?_;rintro e w2 ⟨rfl, A⟩;replace o := below_step o A;clear A Z Y z2 z3 z4 z5 z6 U C D G X B;go_wp2;go_ret
     exact ⟨ret_bool (HB.out k y HX.out l).symm, o⟩
    ·rw [l] at F;go_wp2_with fail
     refine F.mono ?_;rintro e w2 ⟨rfl, A⟩;replace o := below_step o A;replace G := row_keep A G;clear A Z Y z2 z3 z4 z5 z6 U C D X B;go_wp2;go_roundw
     case rel =>
      refine ⟨k + 1, by omega, by go_num, fun j v J hv => ?_, o, G⟩;by_cases s : j < k
      ·exact E j v s hv
      ·have : j = k := by omega
       subst this;rw [HX.out] at hv;cases hv;exact l
     case measure => simp [intOf]; omega
   ·have HR : Hid (houseB x = true) := L.out fun j v hv => E j v (by have := (List.getElem?_eq_some_iff.1 hv).1; omega) hv;go_wp2;go_ret
    exact ⟨ret_bool HR.out.symm, o⟩
 ·rw [N.out s];rw [a] at p;have pA : ¬ ((x.2.length : Int) = (x.1.length : Int)) := by omega
  have vA : ((x.2.length : Int) != (x.1.length : Int)) = true := by simp; omega
  clear M K N HB HE a s;generalize x.1.length = n at *;generalize x.2.length = m at *;go_enter Tryz.func67, Tryz.ntmps67;go_wp2_with fail
  generalize w.alloc (.cells #[sL d n f, sL g m z] 41) = W0 at X B ⊢;refine (p.out _ B).mono ?_;rintro e V ⟨rfl, c⟩;replace X := row_keep c X;replace B := below_step B c;clear c;obtain ⟨C, D⟩ := cells_house X;clear X;go_wp2;go_ret
  exact ⟨rfl, B⟩
end Go.Proofs.YtdamokokcdcedaaGreatDoor
