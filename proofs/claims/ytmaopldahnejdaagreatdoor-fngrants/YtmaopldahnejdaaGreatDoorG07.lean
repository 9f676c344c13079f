import Derived.Test.YtmaopldahnejdaaGreatDoorG00Box
import Derived.Test.YtmaopldahnejdaaGreatDoorG06
namespace Go.Proofs.YtmaopldahnejdaaGreatDoor
set_option maxHeartbeats 1000000
open Go.ChangeShapes Go.WideShapes Go.ChangeAt Go.RowKit
def pr (zs : List Int) (j : Nat) : List Int := [zs.getD (j * 2) 0, zs.getD (j * 2 + 1) 0]
def prs (zs : List Int) (n : Nat) : List (List Int) := (List.range n).map (pr zs)
theorem Tryz.sizeI : (Tryz.prog.info? 2).map (·.size) = some 1 := by kernel_rfl
theorem zGN {B g cap : Nat} {w : World} {zs : List Int} (h : zCW B w g cap zs) (o : Nat) (x y : Int) :
    zCW B (w.setCells g o [nI x, nI y]) g cap ((zs.set o x).set (o + 1) y) ∧ w.grownBy (w.setCells g o [nI x, nI y]) (some g) := by
 have b := World.ownsRow.stored h o (nI x);have a := World.ownsRow.stored b.1 (o + 1) (nI y);refine ⟨?_, zBB b.2 a.2⟩;unfold zCW;rw [List.length_set, List.length_set, List.map_set, List.map_set];exact a.1
theorem zIN {B g cap : Nat} {w : World} {zs : List Int} (h : zCW B w g cap zs) (i : Nat) (hi : i < zs.length) : w.cell? ⟨g, i, none⟩ = some (nI (zs.getD i 0)) := by
 rw [World.ownsRow.cellAt h i (by omega)];simp [List.getD_eq_getElem?_getD, hi]
theorem zFy (w : World) (ty : TypeId) (b o : Nat) (B cap : Nat) (zs : List Int) (a : Addr) (dc sc : Nat) (x y : Int) (h : zCW B w b cap zs) (ho : o + 2 ≤ zs.length)
    (h0 : w.cell? a = some (nI x)) (h1 : w.cell? (a.add 1) = some (nI y)) :
    (Builtin.copy_ #[28, 28] ty #[sL (some ⟨b, o, none⟩) 2 dc, sL (some a) 2 sc]).run Tryz.prog w = .ok (nI 2) (w.setCells b o [nI x, nI y]) := by
 refine run_copy_cells (P := Tryz.prog) w 28 28 ty 2 b o 2 dc a 2 sc [nI x, nI y] Tryz.underlying28 Tryz.sizeI rfl ?_ ?_ ?_ ?_
 ·intro j v c;match j, c with
  | 0, c => simp at c; subst c; rw [show a.add 0 = a from by simp [Addr.add]]; exact h0
  | 1, c => simp at c; subst c; exact h1
 ·intro j c;rw [zIN h (o + j) (by simp at c; omega)];rfl
 ·intro j _;exact World.ownsRow.frozenAt h (o + j)
 ·intro v d;simp at d
  rcases d with rfl | rfl <;> rfl
theorem zGO (B g cap j : Nat) (zs : List Int) (w : World) (h : zCW B w g cap zs) (hj : j * 2 + 2 ≤ zs.length) (hz : zs.length ≤ 32) :
    Calls Tryz.prog 122 #[sL (some ⟨g, 0, none⟩) zs.length cap, nI j] w fun e i => ∃ v, e = .returned v ∧ zCH w i v (pr zs j) := by
 have c := Go.run_make_row' (P := Tryz.prog) 28 2 (nI 0) 8 Tryz.underlying28 Tryz.infoI rfl .i64 .i64 2 (by omega) (by omega);have l : ((2 : Nat) : Int) = 2 := rfl;simp only [l] at c;have hc := (zJ8 h).1;have O := zFE w (madeCells #[nI 0] 2) [0, 0] (zGK 2) (by unfold maxLen; simp);have d : zCW B (w.alloc (.cells (madeCells #[nI 0] 2) 2)) g cap zs := World.ownsRow.alloc h _;have b := zIN d (j * 2) (by omega);have f := zIN d (j * 2 + 1) (by omega);unfold pr;generalize zs.getD (j * 2) 0 = x at b ⊢;generalize zs.getD (j * 2 + 1) 0 = y at f ⊢;have m := zFy _ 3 w.heap.size 0 w.heap.size 2 [0, 0] ⟨g, j * 2, none⟩ 2 2 _ _ O (by simp) b f;have a : Hid _ := zGN O 0 x y;clear d b f O;generalize n : (w.alloc (.cells (madeCells #[nI 0] 2) 2)).setCells w.heap.size 0 [nI x, nI y] = W at m a;clear n;go_enter Tryz.func122, Tryz.ntmps122;go_wp2_with (go_at_call 128; refine (zKW _ _ _ _ _ (by omega) (by omega)).mono ?_; rintro e i ⟨rfl, rfl⟩)
 go_ret
 refine ⟨_, rfl, w.heap.size, 2, rfl, Nat.le_refl _, ?_, a.out.1, ?_⟩
 ·exact (zCX a.out.1).2
 ·exact ((Below.refl _ _).alloc (Nat.le_refl _) _).grown a.out.2 (by simp) (by intro k o; cases o; exact Nat.le_refl _)
theorem prs_push {zs : List Int} {rs : List Rw} {k g c : Nat} (h : rs.map Rw.xs = prs zs k) : (rs ++ [(⟨g, c, pr zs k⟩ : Rw)]).map Rw.xs = prs zs (k + 1) := by
 rw [List.map_append, h];simp [prs, List.range_succ]
theorem zFZ (zs : List Int) (n : Nat) : (prs zs n).length = n := by simp [prs]
theorem zGP (B g cap n : Nat) (zs : List Int) (w : World) (h : zCW B w g cap zs) (hz : zs.length = n * 2) (hn : n ≤ 16) :
    Calls Tryz.prog 93 #[sL (some ⟨g, 0, none⟩) zs.length cap] w fun e w' => ∃ v, e = .returned v ∧ zFQ w w' v (prs zs n) := by
 have y := Go.run_make_row' (P := Tryz.prog) 24 28 (sL none 0 0) 24 Tryz.underlying24 Tryz.infoS rfl .i64 .i64 n (by omega) (by omega);have o : Hid (zs.length = n * 2) := hz;clear hz;go_enter Tryz.func93, Tryz.ntmps93;go_wp2_with fail
 refine (zFx _ n _ _ _ hn o.out).mono ?_;rintro e w1 ⟨rfl, f⟩;rw [f];clear f w1;go_wp2;go_loopw [10] (fun i wr => ∃ k : Nat, k ≤ n ∧ i = nI k ∧ ∃ d : List Rw, d.map Rw.xs = prs zs k ∧ Out w.heap.size wr w.heap.size n n (d.map Rw.v ++ (madeCells #[sL none 0 0] n).toList.drop k) ∧ Inn w.heap.size wr.heap.size wr d ∧ Bl w wr)
  (fun i _ => n - (intOf i).toNat)
 case atStart => exact ⟨0, Nat.zero_le _, rfl, [], rfl, by simpa using out_made w n (by unfold maxLen; omega), zHl _ _ _, (Below.refl _ _).alloc (Nat.le_refl _) _⟩
 case round =>
  obtain ⟨k, hk, rfl, d, a, m, l, j⟩ := hrel;by_cases s : k < n
  ·have D : (k : Int) < (n : Int) := by omega
   have b : d.length = k := by have := congrArg List.length a; simpa [zFZ] using this
   have K : Hid (∀ w1 v, zCH wr w1 v (pr zs k) → _) := fun w1 v hm => zKU (v := v) (w1 := w1) b s (by simp [size_madeCells]) m l j hm;have J : Hid (∀ g c, _) := fun g c => prs_push (g := g) (c := c) a;have G : Hid (zCW B wr g cap zs) := zC6 h j (zCX h).2;clear h m l j a y b;go_wp2_with (go_at_call 122; refine (zGO _ _ _ _ _ _ G.out (by have := o.out; omega) (by have := o.out; omega)).mono ?_; rintro e w1 ⟨v, rfl, z⟩; obtain ⟨g, c, rfl, ⟨v0, H⟩, I, C, F, E⟩ := K.out _ _ z; have p : Hid _ := C; have r : Hid _ := F; have q : Hid _ := E; clear C F E z)
   go_roundw
   case rel => exact ⟨k + 1, by omega, by go_num, _, J.out g c, p.out, r.out, q.out⟩
   case measure => simp [intOf]; omega
  ·have b : k = n := by omega
   subst b;have A := fill_end a (zFZ _ _) (by simp [size_madeCells]) m l j;rw [zFZ] at A;clear m l j;go_wp2;go_ret
   exact ⟨_, rfl, A⟩
theorem pr_set (zs : List Int) (k i : Nat) (x y : Int) (h : k * 2 + 1 < zs.length) : pr ((zs.set (k * 2) x).set (k * 2 + 1) y) i = if i = k then [x, y] else pr zs i := by
 unfold pr;by_cases e : i = k
 ·subst e;simp [List.getD_eq_getElem?_getD, show i * 2 < zs.length by omega, h]
 ·rw [if_neg e];have b : ¬ k * 2 = i * 2 := by omega
  have d : ¬ k * 2 + 1 = i * 2 := by omega
  have c : ¬ k * 2 = i * 2 + 1 := by omega
  have a : ¬ k * 2 + 1 = i * 2 + 1 := by omega
  rw [List.getD_eq_getElem?_getD, List.getD_eq_getElem?_getD, List.getElem?_set_ne d, List.getElem?_set_ne b, List.getElem?_set_ne a, List.getElem?_set_ne c, ← List.getD_eq_getElem?_getD, ← List.getD_eq_getElem?_getD]
theorem zIO {zs : List Int} {n i : Nat} (h : i < n) : (prs zs n)[i]? = some (pr zs i) := by simp [prs, h]
def zCa (xss : List (List Int)) : Bool := zA6 xss.length 1 16 && xss.all isL
theorem zIb {xss : List (List Int)} {k : Nat} {xs : List Int} (hx : xss[k]? = some xs) (hn : isL xs = false) : zCa xss = false := by
 unfold zCa;rw [Bool.and_eq_false_iff];right
 rw [List.all_eq_false];exact ⟨xs, List.mem_of_getElem? hx, by simp [hn]⟩
theorem zIc {xss : List (List Int)} (hl : zA6 xss.length 1 16 = true) (h : ∀ (i : Nat) a, i < xss.length → xss[i]? = some a → isL a = true) : zCa xss = true := by
 unfold zCa;rw [hl, Bool.true_and, List.all_eq_true];intro a c;obtain ⟨i, b, rfl⟩ := List.mem_iff_getElem.1 c;exact h i _ b (List.getElem?_eq_getElem b)
theorem prs_all {xss : List (List Int)} {zs : List Int} (h : ∀ (i : Nat) a, i < xss.length → xss[i]? = some a → pr zs i = a) : prs zs xss.length = xss := by
 apply List.ext_getElem?
 intro i;by_cases b : i < xss.length
 ·obtain ⟨a, c⟩ := zDp b;rw [zIO b, c, h i a b c]
 ·rw [List.getElem?_eq_none (by rw [zFZ]; omega), List.getElem?_eq_none (by omega)]
theorem zEd (a : Option Addr) (xss : List (List Int)) (cap : Nat) (w : World) (h : zDo w a xss) (hm : xss.length ≤ 9223372036854775807) :
    Calls Tryz.prog 99 #[sL a xss.length cap] w fun e q => ∃ v, e = .returned (.tuple #[v, .bool (zCa xss)]) ∧ Bl w q ∧
     (zCa xss = true → ∃ l, l.length = xss.length * 2 ∧ prs l xss.length = xss ∧ zCH w q v l) := by
 cases L : zA6 xss.length 1 16
 ·have A : zCa xss = false := by unfold zCa; rw [L]; rfl
  rw [A];go_enter Tryz.func99, Tryz.ntmps99;go_wp2_with (go_at_call 44; refine (zCA _ _).mono ?_; rintro e q ⟨rfl, rfl⟩)
  go_ret2
  exact ⟨_, rfl, (Below.refl _ _).alloc (Nat.le_refl _) _, fun h => by cases h⟩
 ·have J : 1 ≤ xss.length ∧ xss.length ≤ 16 := by simp [zA6] at L; omega
  go_enter Tryz.func99, Tryz.ntmps99;go_wp2_with (go_at_call 44; refine (zCA _ _).mono ?_; rintro e q ⟨rfl, m⟩; rw [m]; clear m q)
  refine (zGL _ _ J.2).mono ?_;rintro e w1 ⟨v, rfl, g, c, rfl, l1, K, o1, S⟩;go_wp2_with fail
  go_loopw [18] (fun i wr => ∃ k : Nat, k ≤ xss.length ∧ i = nI k ∧ ∃ l : List Int, l.length = xss.length * 2 ∧ (∀ (i : Nat) d, i < k → xss[i]? = some d → pr l i = d ∧ isL d = true) ∧ zCW w.heap.size wr g c l ∧ Bl w wr)
   (fun i _ => xss.length - (intOf i).toNat)
  case atStart => exact ⟨0, Nat.zero_le _, rfl, _, by simp, fun i d r => absurd r (Nat.not_lt_zero _), o1, S⟩
  case round =>
   obtain ⟨k, hk, rfl, l, H, f, s, z⟩ := hrel;clear o1 S K;by_cases N : k < xss.length
   ·have aA : (k : Int) < (xss.length : Int) := by omega
    obtain ⟨d, n⟩ := zDp N;obtain ⟨b, iA, aj, cj, rfl, g1, hr⟩ := zCR (zFw h z) n;have E : Hid (zBr wr aj d) := hr;have I : Hid (xss[k]? = some d) := n;have Y : Hid _ := f;have o : Hid (l.length = xss.length * 2) := H;clear h hr n f H;go_wp2_with fail
    refine (zCI _ d _ _ E.out).mono ?_;rintro e T ⟨rfl, D⟩;have G := zAa z D;rcases zBJ d with V | ⟨x, y, rfl, n, hy⟩
    ·rw [V];have A := zIb I.out V;clear I Y E s z D;go_wp2;rw [A];go_ret2
     exact ⟨_, rfl, G.alloc G.size _, fun h => by cases h⟩
    ·have B := zE8 n hy;rw [B];have F := zC6 s D (zCX s).2;have X := zDO E.out D;obtain ⟨b', C, rfl, Z, U⟩ := zDr X;have CP := zFy T 3 g (k * 2) w.heap.size c l ⟨b', C, none⟩ 2 cj x y F (by have := o.out; omega) Z (by simpa [Addr.add] using U);have M : Hid _ := zGN F (k * 2) x y;have R : k * 2 + 2 ≤ c := by have := (zJ8 F).1; have := o.out; omega
     clear E s z D X Z U F;generalize hW : T.setCells g (k * 2) [nI x, nI y] = W at CP M;clear hW;go_wp2_with (go_at_call 128; refine (zKW _ _ _ _ _ (by omega) R).mono ?_; rintro e q ⟨rfl, m⟩; rw [m]; clear m q)
     go_roundw
     case rel =>
      refine ⟨k + 1, by omega, by go_num, (l.set (k * 2) x).set (k * 2 + 1) y, by have := o.out; simpa using this, ?_, M.out.1, G.grown M.out.2 G.size (by intro j hj; cases hj; exact l1)⟩;intro i d r p;rw [pr_set l k i x y (by have := o.out; omega)];by_cases e : i = k
      ·subst e;rw [I.out] at p;cases p;exact ⟨if_pos rfl, B⟩
      ·rw [if_neg e];exact Y.out i d (by omega) p
     case measure => simp [intOf]; omega
   ·have O : k = xss.length := by omega
    subst O;have A := zIc L (fun i d r n => (f i d r n).2);have HP : Hid _ := prs_all (fun i d r n => (f i d r n).1);have o : Hid (l.length = xss.length * 2) := H;clear H;go_wp2;rw [A];go_ret2
    exact ⟨_, rfl, z, fun _ => ⟨l, o.out, HP.out, g, c, by rw [o.out]; rfl, l1, (zCX s).2, s, z⟩⟩
def newM (n : Int) : List (List Int) := if zA6 n 1 16 then List.replicate n.toNat [0, 0] else []
def zDz (xss : List (List Int)) (k : Int) : List Int := if zCa xss && zA6 k 0 ((xss.length : Int) - 1) then xss.getD k.toNat [] else []
theorem zEe {xss : List (List Int)} (h : zCa xss = true) : 1 ≤ xss.length ∧ xss.length ≤ 16 := by
 unfold zCa at h;rw [Bool.and_eq_true] at h;have := h.1;simp [zA6] at this
 omega
theorem zEf {xss : List (List Int)} (h : zCa xss = true) {j : Nat} {xs : List Int} (hx : xss[j]? = some xs) : isL xs = true := by
 unfold zCa at h;rw [Bool.and_eq_true, List.all_eq_true] at h;exact h.2 xs (List.mem_of_getElem? hx)
theorem zEN {k : Int} {n : Nat} (h : zA6 k 0 ((n : Int) - 1) = true) : ∃ j : Nat, k = j ∧ j < n := by
 simp [zA6] at h
 exact ⟨k.toNat, by omega, by omega⟩
theorem prs_zero (n : Nat) : prs (List.replicate (n * 2) 0) n = List.replicate n [0, 0] := by
 apply List.ext_getElem?
 intro i;by_cases a : i < n
 ·rw [zIO a, List.getElem?_replicate, if_pos a];simp [pr, List.getD_eq_getElem?_getD, show i * 2 < n * 2 by omega, show i * 2 + 1 < n * 2 by omega]
 ·rw [List.getElem?_eq_none (by rw [zFZ]; omega), List.getElem?_eq_none (by simp; omega)]
theorem zF6 (a : Option Addr) (xss : List (List Int)) (cap : Nat) (w : World) (h : zDo w a xss) (hm : xss.length ≤ 9223372036854775807) :
    Calls Tryz.prog 52 #[sL a xss.length cap] w fun e w' => e = .returned (.bool (zCa xss)) ∧ Bl w w' := by
 go_enter Tryz.func52, Tryz.ntmps52;go_wp2_with fail
 refine (zEd _ xss _ _ h hm).mono ?_;rintro e w1 ⟨v, rfl, b, _⟩;go_wp2;go_ret
 exact ⟨rfl, b⟩
theorem zFn (n : Int) (w : World) :
    Calls Tryz.prog 45 #[nI n] w fun e f => ∃ v, e = .returned v ∧ zFQ w f v (newM n) := by
 cases i : zA6 n 1 16
 ·have d : newM n = [] := by unfold newM; rw [i]; rfl
  rw [d];go_enter Tryz.func45, Tryz.ntmps45;go_wp2_with (go_at_call 44; refine (zCA _ _).mono ?_; rintro e f ⟨rfl, rfl⟩)
  go_ret
  exact ⟨_, rfl, zKb _ _ rfl⟩
 ·obtain ⟨j, rfl, o⟩ : ∃ j : Nat, n = j ∧ j ≤ 16 := by simp [zA6] at i; exact ⟨n.toNat, by omega, by omega⟩
  have d : newM (j : Int) = prs (List.replicate (j * 2) 0) j := by unfold newM; rw [i, prs_zero]; rfl
  rw [d];clear d;have k : Hid ((List.replicate (j * 2) (0 : Int)).length = j * 2) := List.length_replicate;go_enter Tryz.func45, Tryz.ntmps45;go_wp2_with (go_at_call 44; refine (zCA _ _).mono ?_; rintro e f ⟨rfl, b⟩; rw [b]; clear b f)
  refine (zGL _ _ o).mono ?_;rintro e w1 ⟨v, rfl, g, c, rfl, l1, r, m, p⟩;generalize a : List.replicate (j * 2) (0 : Int) = zs at m k ⊢;have q : Hid (List.replicate (j * 2) (0 : Int) = zs) := a;clear a;go_wp2_with fail
  refine (zGP _ g c j zs _ m k.out o).mono ?_;rintro e w2 ⟨v, rfl, l⟩;rw [← q.out] at l;go_wp2;go_ret
  exact ⟨_, rfl, zKa p l⟩
theorem zF7 (a : Option Addr) (xss : List (List Int)) (cap : Nat) (k : Int) (w : World) (h : zDo w a xss) (hm : xss.length ≤ 9223372036854775807) :
    Calls Tryz.prog 116 #[sL a xss.length cap, nI k] w fun e n => ∃ v, e = .returned v ∧ zCH w n v (zDz xss k) := by
 cases d : zCa xss
 ·have f : zDz xss k = [] := by unfold zDz; rw [d]; rfl
  rw [f];go_enter Tryz.func116, Tryz.ntmps116;go_wp2_with fail
  refine (zEd _ xss _ _ h hm).mono ?_;rintro e s ⟨v, rfl, i, _⟩;rw [d];go_wp2;go_ret
  exact ⟨_, rfl, zBn i (zFm _ _ rfl)⟩
 ·have y := zEe d;cases r : zA6 k 0 ((xss.length : Int) - 1)
  ·have f : zDz xss k = [] := by unfold zDz; rw [d, r]; rfl
   rw [f];clear f;go_enter Tryz.func116, Tryz.ntmps116;go_wp2_with fail
   refine (zEd _ xss _ _ h hm).mono ?_;rintro e s ⟨v, rfl, i, o⟩;obtain ⟨zs, m, p, g, c, rfl, C, q, z, _⟩ := o d;rw [d];have l : Hid _ := m;clear m o p;go_wp2_with (go_at_call 139; refine (zGM _ xss.length _ _ _ _ y.2 l.out).mono ?_; rintro e n ⟨rfl, b⟩; rw [b]; clear b n)
   go_ret
   exact ⟨_, rfl, zBn i (zFm _ _ rfl)⟩
  ·obtain ⟨j, rfl, B⟩ := zEN r;go_enter Tryz.func116, Tryz.ntmps116;go_wp2_with fail
   refine (zEd _ xss _ _ h hm).mono ?_;rintro e s ⟨v, rfl, i, o⟩;obtain ⟨zs, m, p, g, c, rfl, C, q, z, _⟩ := o d;rw [d];have f : Hid (zDz xss j = pr zs j) := by
    have := zIO (zs := zs) B;rw [p] at this;unfold Hid zDz;rw [d, r];simp [List.getD_eq_getElem?_getD, this]
   have l : Hid _ := m;clear m o p
   go_wp2_with (first
    | (go_at_call 139; refine (zGM _ xss.length _ _ _ _ y.2 l.out).mono ?_; rintro e n ⟨rfl, b⟩; rw [b]; clear b n)
    | (go_at_call 122; refine (zGO _ _ _ _ _ _ z (by have := l.out; omega) (by have := l.out; omega)).mono ?_; rintro e w2 ⟨v, rfl, A⟩))
   go_ret
   rw [f.out];exact ⟨_, rfl, zBn i A⟩
theorem zKX {w w1 : World} {g cap : Nat} {zs : List Int} (h : zCW w.heap.size w1 g cap zs) (hb : Bl w w1) (k k2 : Nat) (u u2 : Int) :
    zCH w ((w1.setCell ⟨g, k, none⟩ (nI u)).setCell ⟨g, k2, none⟩ (nI u2)) (sL (some ⟨g, 0, none⟩) zs.length cap) ((zs.set k u).set k2 u2) := by
 obtain ⟨g1, c1, a, _, _, c, b⟩ := zFJ h hb k u;simp only [List.length_set, Value.slice.injEq, Option.some.injEq, Addr.mk.injEq, and_true, true_and] at a;obtain ⟨rfl, rfl⟩ := a;have M := zFJ c b k2 u2;rw [List.length_set] at M;exact M
theorem zId (a a2 : Option Addr) (x y x2 y2 : Int) (cap cap2 : Nat) (m : Int) (w : World) (h : zBr w a [x, y]) (h2 : zBr w a2 [x2, y2])
    (hx : okW x = true) (hy : okW y = true) (hx2 : okW x2 = true) (hy2 : okW y2 = true) (hm : zA6 m 0 3 = true) :
    Calls Tryz.prog 152 #[sL a 2 cap, sL a2 2 cap2, nI m] w fun e w' => ∃ v, e = .returned v ∧ zCH w w' v (zBz [x, y] [x2, y2] m) := by
 have n : Hid (zBz [x, y] [x2, y2] m = [if m % 2 = 1 then x2 else x, if m / 2 % 2 = 1 then y2 else y]) := by
  unfold Hid zBz; simp [zE8 hx hy, zE8 hx2 hy2, hm]
 clear hx hy hx2 hy2;obtain ⟨b, q, rfl, -⟩ := zDr h;have p := h2;obtain ⟨k, i, rfl, r, -⟩ := zDr h2;rcases zHY hm with rfl | rfl | rfl | rfl
 all_goals
  have c := n.out;simp at c
  have l : Hid _ := c;clear n c;have s : k < w.heap.size := World.block_lt_of_cell? w ⟨k, i, none⟩ r;go_enter Tryz.func152, Tryz.ntmps152;go_wp2_with fail
  refine (zFh _ [x, y] _ _ h (by simp)).mono ?_;rintro e w1 ⟨v, rfl, g, z, rfl, B, j, f, d⟩;obtain ⟨c0, c1, f0, f1⟩ := zKf f;obtain ⟨_, _, o, d0, d1⟩ := zDr (zDO p d);simp only [Option.some.injEq, Addr.mk.injEq, and_true] at o;obtain ⟨rfl, rfl⟩ := o;have A : k ≠ g := by omega
  go_wp2_with fail
  refine wp_loop_rounds 3 ?_;rw [rounds_succ];go_wp2_with fail
  rw [rounds_succ];go_wp2_with fail
  rw [rounds_succ];go_wp2_with fail
  go_ret
  rw [l.out];first
   | exact ⟨_, rfl, g, z, rfl, B, j, f, d⟩
   | exact ⟨_, rfl, zFJ f d 0 x2⟩
   | exact ⟨_, rfl, zFJ f d 1 y2⟩
   | exact ⟨_, rfl, zKX f d 0 1 x2 y2⟩
theorem zKY {B k g c : Nat} {W w1 : World} {v v' : Value} {rs : List Rw} {xs : List Int} (hown : W.ownsRow B 28 1 v k (rs.map Rw.v)) (hin : Inn B W.heap.size W (rs ++ [⟨g, c, xs⟩]))
    (hown' : w1.ownsRow B 28 1 v' (k + 1) (rs.map Rw.v ++ [sL (some ⟨g, 0, none⟩) xs.length c])) (hgrow : W.grownBy w1 v.ownBlock) :
    w1.ownsRow B 28 1 v' (k + 1) ((rs ++ [(⟨g, c, xs⟩ : Rw)]).map Rw.v) ∧ Inn B w1.heap.size w1 (rs ++ [(⟨g, c, xs⟩ : Rw)]) := by
 refine ⟨by rw [List.map_append]; exact hown', ?_⟩;refine zFI (zFR hin fun i r hr => ?_) hgrow.size;have o := (hin.1 i r hr).1;refine hgrow.block _ (zCX o).2 ?_;rcases hown.2 with ⟨rfl, _⟩ | ⟨G, b, f, rfl, hb, d, rest⟩
 ·simp [Value.ownBlock]
 ·obtain ⟨c2, a⟩ := zHk o;simp only [Value.ownBlock, ne_eq, Option.some.injEq];intro e;rw [e, d] at a;simp at a
theorem zHw {w : World} {B : Nat} {e : TypeId} {v : Value} {n : Nat} {xs : List Value} (h : w.ownsRow B e 1 v n xs) (hv : v ≠ sL none 0 0) :
    ∃ g a, v = sL (some ⟨g, 0, none⟩) n a ∧ B ≤ g ∧ g < w.heap.size := by
 rcases h.2 with ⟨rfl, _⟩ | ⟨g, a, d, rfl, b, c, _⟩
 ·exact absurd rfl hv
 ·exact ⟨g, a, rfl, b, (ltH c)⟩
theorem zF8 (a : Option Addr) (xss : List (List Int)) (cap : Nat) (w : World) (h : zDo w a xss) (hm : xss.length ≤ 2305843009213693952) :
    Calls Tryz.prog 54 #[sL a xss.length cap] w fun e g => e = .returned (.bool (zCa xss)) ∧ g = w := by
 go_enter Tryz.func54, Tryz.ntmps54;go_wp2;go_loop [3] (fun i => ∃ k : Nat, k ≤ xss.length ∧ i = nI k ∧ ∀ (i : Nat) f, i < k → xss[i]? = some f → isL f = true) (fun i => xss.length - (intOf i).toNat)
 case atStart => exact ⟨0, Nat.zero_le _, rfl, fun i f hi => absurd hi (Nat.not_lt_zero _)⟩
 case round =>
  obtain ⟨k, hk, rfl, c⟩ := hrel;by_cases m : k < xss.length
  ·have s : (k : Int) < (xss.length : Int) := by omega
   obtain ⟨f, l⟩ := zDp m;obtain ⟨b, z, y, cj, rfl, g1, v⟩ := zCR h l;have o : Hid (zBr w y f) := v;have p : Hid (xss[k]? = some f) := l;have A : Hid _ := c;clear h v l c;cases j : isL f
   ·have q := zIb p.out j;go_wp2_with (go_at_call 103; refine (zCJ _ f _ _ o.out).mono ?_; rintro e g ⟨rfl, d⟩; rw [d, j]; clear d g)
    go_ret
    exact ⟨zAJ (by first | rfl | exact q.symm | simp [q]), rfl⟩
   ·go_wp2_with (go_at_call 103; refine (zCJ _ f _ _ o.out).mono ?_; rintro e g ⟨rfl, d⟩; rw [d, j]; clear d g)
    go_round
    case rel =>
     refine ⟨k + 1, by omega, by go_num, fun i ys hi hy => ?_⟩;by_cases e : i = k
     ·subst e;rw [p.out] at hy;cases hy;exact j
     ·exact A.out i ys (by omega) hy
    case measure => simp [intOf]; omega
  ·have n : k = xss.length := by omega
   subst n;have B : Hid (zA6 (xss.length : Int) 1 16 = zCa xss) := by
    unfold Hid;cases r : zA6 (xss.length : Int) 1 16
    ·unfold zCa; rw [r]; rfl
    ·exact (zIc r c).symm
   clear c;go_wp2_with (go_at_call 58; refine (zAx _ _ _ _).mono ?_; rintro e g ⟨rfl, rfl⟩)
   go_ret
   exact ⟨zAJ B.out, rfl⟩
theorem rep_push {rs : List Rw} {k g c : Nat} {xs : List Int} (h : rs.map Rw.xs = List.replicate k xs) : (rs ++ [(⟨g, c, xs⟩ : Rw)]).map Rw.xs = List.replicate (k + 1) xs := by
 rw [List.map_append, h, List.replicate_succ'];rfl
theorem zKZ (n : Nat) (w : World) (hn : n ≤ 1000) :
    Calls Tryz.prog 59 #[nI n] w fun e w' => ∃ v, e = .returned v ∧ zFQ w w' v (List.replicate n [0, 0]) := by
 obtain ⟨N, y, D, C, z⟩ := info_parts Tryz.infoS;go_enter Tryz.func59, Tryz.ntmps59;go_wp2;go_loopw [3, 4] (fun v i wr => ∃ k : Nat, k ≤ n ∧ i = nI k ∧ v ≠ sL none 0 0 ∧ ∃ rs : List Rw, rs.map Rw.xs = List.replicate k [0, 0] ∧ wr.ownsRow w.heap.size 28 1 v k (rs.map Rw.v) ∧ Inn w.heap.size wr.heap.size wr rs ∧ Bl w wr)
  (fun _ i _ => n - (intOf i).toNat)
 case atStart => exact ⟨0, by omega, rfl, by simp, [], rfl, World.ownsRow_lit _ #[] 0 (Nat.le_refl _) (Nat.zero_le _) rfl, zHl _ _ _, (Below.refl _ _).alloc (Nat.le_refl _) _⟩
 case round =>
  obtain ⟨k, hk, rfl, U, rs, m, a, f, s⟩ := hrel;have r := s.size;by_cases X : k < n
  ·have I : (k : Int) < (n : Int) := by omega
   have O := zFY (zFE wr #[nI 0, nI 0] [0, 0] rfl (by unfold maxLen; simp)) r;have F := zHm (hi' := wr.heap.size + 1) (zEc f ((Below.refl wr.heap.size wr).alloc (Nat.le_refl _) (.cells #[nI 0, nI 0] 2)) (Nat.le_refl _)) O (Nat.le_refl _) (Nat.lt_succ_self _);have S : Hid _ := F;have J := World.ownsRow.alloc a (.cells #[nI 0, nI 0] 2);have T : Hid _ := s;have V : Hid _ := m;clear O F f s m;go_wp2_with (at_builtin; refine wpList_append_own _ rfl _ _ 24 rfl w.heap.size 28 N (sL none 0 0) 1 24 Tryz.underlying24 y D C z rfl (by decide) _ _ _ rfl (J.alloc _) ⟨_, 0, none⟩ 1 1 [sL (some ⟨wr.heap.size, 0, none⟩) 2 2] rfl rfl ?c1 ?c2 ?c3 ?c4 ?c5 ?_)
   case c1 =>
    intro j u o;match j, o with
    | 0, o => simp at o; subst o; simp [Addr.add]
   case c2 => intro u H; simp at H; subst H; rfl
   case c3 => unfold maxLen; omega
   case c4 => omega
   case c5 => simp; omega
   ·intro L w1 d b l;have B : L ≠ sL none 0 0 := l;have K := zKY (rs := rs) (g := wr.heap.size) (c := 2) (xs := [0, 0]) (J.alloc _) (zFI (zEc S.out ((Below.refl _ _).alloc (Nat.le_refl _) _) (by simp)) (by simp)) d b;have G : Hid _ := K;have R := ((T.out.alloc r (.cells #[nI 0, nI 0] 2)).alloc (by simp; omega) _).grown b (by simp; omega) (fun j o => (a.lt j o).1);have M : Hid _ := rep_push (g := wr.heap.size) (c := 2) V.out;clear d b a l K;go_wp2;go_roundw
    case rel => exact ⟨k + 1, by omega, by go_num, B, _, M.out, G.out.1, G.out.2, R⟩
    case measure => simp [intOf]; omega
  ·have E : k = n := by omega
   subst E;obtain ⟨g, q, rfl, A, p⟩ := zHw a U;have Y : zFQ w wr (sL (some ⟨g, 0, none⟩) k q) (List.replicate k [0, 0]) := ⟨g, q, by rw [List.length_replicate], A, p, ⟨rs, m, by rw [List.length_replicate]; exact a, p, f⟩, s⟩;clear a f s;go_wp2;go_ret
   exact ⟨_, rfl, Y⟩
end Go.Proofs.YtmaopldahnejdaaGreatDoor
