import Derived.Test.YtcocbafhcpdheaaGreatDoorT00Box
import Derived.Test.YtcocbafhcpdheaaGreatDoorT32
import Derived.Test.YtcocbafhcpdheaaGreatDoorT33
import Derived.Laws.IdiomCopy
import Derived.Laws.Slices
namespace Go.Proofs.YtcocbafhcpdheaaGreatDoor
set_option maxHeartbeats 4000000
open Go.ChangeShapes Go.WideShapes Go.ChangeAt Go.RowKit
set_option linter.unusedVariables false
theorem who_bd {o s : Int} (h : zBw o s = true) : -1 ≤ o ∧ o ≤ 3 ∧ 0 ≤ s ∧ s ≤ 15 := by
 simp [zBw, zA8] at h
 omega
theorem who_of {o s : Int} {b : Bool} {k f l m : Int} {d : List Int} (h : zDD (o, s, b, k, f, l, m, d) = true) : zBw o s = true := by rw [eb] at h; exact (Bool.and_eq_true _ _ ▸ h).1
theorem zGN (o s k f l m : Int) (b : Bool) (d : List Int) (a : Option Addr) (cap : Nat) (w : World) (h : zA4 zAG w a d) :
    Calls Tryz.prog 167 #[.agg #[.int .i64 o, .int .i64 s, .bool b, .int .i64 k, .int .i64 f, .int .i64 l, .int .i64 m, .slice a d.length cap]] w fun e w' => ∃ v, e = .returned v ∧ zIJ w w' v (if zDD (o, s, b, k, f, l, m, d) then hoI o s else []) := by
 have X := zAn w (.cells #[.int .i64 o, .int .i64 s, .bool b, .int .i64 k, .int .i64 f, .int .i64 l, .int .i64 m, .slice a d.length cap] 147);have B := zAf w (.cells #[.int .i64 o, .int .i64 s, .bool b, .int .i64 k, .int .i64 f, .int .i64 l, .int .i64 m, .slice a d.length cap] 147);have g : Hid _ := fun (W : World) (hb : Below w.heap.size w W) => zEz o s k f l m b d a cap W (zAm h hb);clear h;cases j : zDD (o, s, b, k, f, l, m, d)
 ·rw [j] at g;go_enter Tryz.func167, Tryz.ntmps167;go_wp2_with fail
  generalize w.alloc (.cells #[.int .i64 o, .int .i64 s, .bool b, .int .i64 k, .int .i64 f, .int .i64 l, .int .i64 m, .slice a d.length cap] 147) = W0 at X B ⊢;refine (g.out _ B).mono ?_;rintro e i ⟨rfl, c⟩;have M : Hid (zIJ w (i.alloc (.cells #[] 2)) (.slice (some ⟨i.heap.size, 0, none⟩) 0 0) []) := zIK (zAa B c) (zLb i #[] [] rfl (by unfold maxLen; simp));clear c g X B;go_wp2;go_ret
  exact ⟨_, rfl, M.out⟩
 ·rw [j] at g;have y : Hid (zFi o s 8 = hoI o s) := holL_eq (who_of j);go_enter Tryz.func167, Tryz.ntmps167;go_wp2_with fail
  generalize w.alloc (.cells #[.int .i64 o, .int .i64 s, .bool b, .int .i64 k, .int .i64 f, .int .i64 l, .int .i64 m, .slice a d.length cap] 147) = W0 at X B ⊢;refine (g.out _ B).mono ?_;rintro e i ⟨rfl, c⟩;replace X := zAb c X;replace B := zAa B c;obtain ⟨D, z, F, E, G, q, C, H⟩ := zCi X;clear c g X;go_wp2_with fail
  refine (page_any o s k f l m b _ _).mono ?_;rintro e w2 ⟨rfl, p⟩;replace B := zAa B p;clear p D z F E G q C H;go_wp2_with (go_at_call 209; refine (zKH o s _).mono ?_; rintro e r ⟨v, rfl, n⟩; rw [y.out] at n; have A : Hid (zIJ w r v (hoI o s)) := zIK B n; clear n)
  go_ret
  exact ⟨_, rfl, A.out⟩
theorem zKI {s : Int} : ∀ {k : Nat} {x : Int}, x ∈ zO7 s k → 0 ≤ x ∧ x < k
 | 0, x, h => by simp [zO7] at h
 | k + 1, x, h => by
  unfold zO7 at h;split at h
  ·rcases List.mem_append.1 h with h | h
   ·have := zKI h; omega
   ·simp at h; omega
  ·have := zKI h; omega
theorem ho_small {o s : Int} (h : zBw o s = true) : (hoI o s).length ≤ 8 ∧ ∀ x ∈ hoI o s, 0 ≤ x ∧ x < 8 := by
 have hb := who_bd h;unfold hoI;split
 ·exact ⟨by simp, fun x hx => by simp at hx; omega⟩
 ·exact ⟨zO8 s 8, fun x hx => zKI hx⟩
theorem zME (u : zAW) : (if zDD u then hoI u.1 u.2.1 else []).length ≤ 8 ∧ Hid (∀ x ∈ (if zDD u then hoI u.1 u.2.1 else []), zAN x) := by
 cases b : zDD u
 ·exact ⟨by simp, fun x hx => by simp at hx⟩
 ·have c : zBw u.1 u.2.1 = true := by unfold zDD at b; exact (Bool.and_eq_true _ _ ▸ b).1
  obtain ⟨d, a⟩ := ho_small c;exact ⟨d, fun x hx => ⟨by have := a x hx; omega, by have := a x hx; omega⟩⟩
theorem zMF (n : Nat) : (madeCells #[.int .i64 0] n).toList = (List.replicate n (0 : Int)).map (Value.int .i64) := by
 apply List.ext_getElem?
 intro i;simp only [madeCells, Array.toList_map, Array.toList_range, List.getElem?_map, List.getElem?_replicate];by_cases h : i < n
 ·simp [h, Nat.mod_one]
 ·simp [h]
theorem owni_cap {B g cap : Nat} {w : World} {zs : List Int} (h : zJS B w g cap zs) : zs.length ≤ cap ∧ cap ≤ maxLen := by
 rcases h.2 with ⟨a, _⟩ | ⟨g', b, f, a, c, d, j, i, rest⟩
 ·simp at a
 ·simp only [Value.slice.injEq, Option.some.injEq, Addr.mk.injEq, and_true, true_and] at a;obtain ⟨rfl, rfl⟩ := a;exact ⟨j, i⟩
theorem zMG (n : Nat) (w : World) (hn : n ≤ 16) : Calls Tryz.prog 239 #[.int .i64 n] w fun e w' => ∃ v, e = .returned v ∧ zIJ w w' v (List.replicate (n * 2) 0) := by
 have a := Go.run_make_row' (P := Tryz.prog) 225 2 (.int .i64 0) 8 Tryz.underlying225 Tryz.infoI rfl .i64 .i64 (n * 2) (by omega) (by omega);have b : ((n * 2 : Nat) : Int) = (n : Int) * 2 := by omega
 simp only [b] at a;have M := zLb w (madeCells #[.int .i64 0] (n * 2)) (List.replicate (n * 2) 0) (zMF _) (by unfold maxLen; simp; omega);rw [List.length_replicate] at M;have c : Hid _ := M;clear M;go_enter Tryz.func239, Tryz.ntmps239;go_wp2;go_ret
 exact ⟨_, rfl, c.out⟩
theorem cut_any (g n cap j : Nat) (w : World) (hj : j ≤ 16) (h : j * 2 + 2 ≤ cap) : Calls Tryz.prog 240 #[.slice (some ⟨g, 0, none⟩) n cap, .int .i64 j] w fun e w' => e = .returned (.slice (some ⟨g, j * 2, none⟩) 2 2) ∧ w' = w := by
 go_enter Tryz.func240, Tryz.ntmps240;go_wp2;go_ret
 refine ⟨?_, rfl⟩;have a : j * 2 + 2 - j * 2 = 2 := by omega
 rw [a];rfl
def pr (zs : List Int) (j : Nat) : List Int := [zs.getD (j * 2) 0, zs.getD (j * 2 + 1) 0]
def prs (zs : List Int) (n : Nat) : List (List Int) := (List.range n).map (pr zs)
theorem Tryz.sizeI : (Tryz.prog.info? 2).map (·.size) = some 1 := by kernel_rfl
theorem zMH {B g cap : Nat} {w : World} {zs : List Int} (h : zJS B w g cap zs) (o : Nat) (x y : Int) :
    zJS B (w.setCells g o [.int .i64 x, .int .i64 y]) g cap ((zs.set o x).set (o + 1) y) ∧ w.grownBy (w.setCells g o [.int .i64 x, .int .i64 y]) (some g) := by
 have a := World.ownsRow.stored h o (.int .i64 x);have b := World.ownsRow.stored a.1 (o + 1) (.int .i64 y);refine ⟨?_, zEL a.2 b.2⟩;unfold zJS;rw [List.length_set, List.length_set, List.map_set, List.map_set];exact b.1
theorem owni_at {B g cap : Nat} {w : World} {zs : List Int} (h : zJS B w g cap zs) (i : Nat) (hi : i < zs.length) : w.cell? ⟨g, i, none⟩ = some (.int .i64 (zs.getD i 0)) := by
 rw [World.ownsRow.cellAt h i (by omega)];simp [List.getD_eq_getElem?_getD, hi]
theorem zJ8 (w : World) (ty : TypeId) (b o : Nat) (B cap : Nat) (zs : List Int) (a : Addr) (dc sc : Nat) (x y : Int) (h : zJS B w b cap zs) (ho : o + 2 ≤ zs.length)
    (h0 : w.cell? a = some (.int .i64 x)) (h1 : w.cell? (a.add 1) = some (.int .i64 y)) :
    (Builtin.copy_ #[37, 37] ty #[.slice (some ⟨b, o, none⟩) 2 dc, .slice (some a) 2 sc]).run Tryz.prog w = .ok (.int .i64 2) (w.setCells b o [.int .i64 x, .int .i64 y]) := by
 refine run_copy_cells (P := Tryz.prog) w 37 37 ty 2 b o 2 dc a 2 sc [.int .i64 x, .int .i64 y] Tryz.underlying37 Tryz.sizeI rfl ?_ ?_ ?_ ?_
 ·intro j v c;match j, c with
  | 0, c => simp at c; subst c; rw [show a.add 0 = a from by simp [Addr.add]]; exact h0
  | 1, c => simp at c; subst c; exact h1
 ·intro j c;rw [owni_at h (o + j) (by simp at c; omega)];rfl
 ·intro j _;exact World.ownsRow.frozenAt h (o + j)
 ·intro v d;simp at d
  rcases d with rfl | rfl <;> rfl
theorem prs_len (zs : List Int) (n : Nat) : (prs zs n).length = n := by simp [prs]
theorem pr_set (zs : List Int) (k i : Nat) (x y : Int) (h : k * 2 + 1 < zs.length) : pr ((zs.set (k * 2) x).set (k * 2 + 1) y) i = if i = k then [x, y] else pr zs i := by
 unfold pr;by_cases e : i = k
 ·subst e;simp [List.getD_eq_getElem?_getD, show i * 2 < zs.length by omega, h]
 ·rw [if_neg e];have c : ¬ k * 2 = i * 2 := by omega
  have b : ¬ k * 2 + 1 = i * 2 := by omega
  have a : ¬ k * 2 = i * 2 + 1 := by omega
  have d : ¬ k * 2 + 1 = i * 2 + 1 := by omega
  rw [List.getD_eq_getElem?_getD, List.getD_eq_getElem?_getD, List.getElem?_set_ne b, List.getElem?_set_ne c, List.getElem?_set_ne d, List.getElem?_set_ne a, ← List.getD_eq_getElem?_getD, ← List.getD_eq_getElem?_getD]
theorem prs_get {zs : List Int} {n i : Nat} (h : i < n) : (prs zs n)[i]? = some (pr zs i) := by simp [prs, h]
def zE0 (xss : List (List Int)) : Bool := zA8 xss.length 1 16 && xss.all isL
theorem zJ9 {xss : List (List Int)} {k : Nat} {xs : List Int} (hx : xss[k]? = some xs) (hn : isL xs = false) : zE0 xss = false := by
 unfold zE0;rw [Bool.and_eq_false_iff];right
 rw [List.all_eq_false];exact ⟨xs, List.mem_of_getElem? hx, by simp [hn]⟩
theorem zJA {xss : List (List Int)} (hl : zA8 xss.length 1 16 = true) (h : ∀ (i : Nat) a, i < xss.length → xss[i]? = some a → isL a = true) : zE0 xss = true := by
 unfold zE0;rw [hl, Bool.true_and, List.all_eq_true];intro a c;obtain ⟨i, b, rfl⟩ := List.mem_iff_getElem.1 c;exact h i _ b (List.getElem?_eq_getElem b)
theorem prs_all {xss : List (List Int)} {zs : List Int} (h : ∀ (i : Nat) a, i < xss.length → xss[i]? = some a → pr zs i = a) : prs zs xss.length = xss := by
 apply List.ext_getElem?
 intro i;by_cases b : i < xss.length
 ·obtain ⟨a, c⟩ := zGw b;rw [prs_get b, c, h i a b c]
 ·rw [List.getElem?_eq_none (by rw [prs_len]; omega), List.getElem?_eq_none (by omega)]
theorem zOE (a : Option Addr) (xss : List (List Int)) (cap : Nat) (w : World) (h : zGv w a xss) (hm : xss.length ≤ 9223372036854775807) :
    Calls Tryz.prog 204 #[.slice a xss.length cap] w fun e o => ∃ v, e = .returned (.tuple #[v, .bool (zE0 xss)]) ∧ Below w.heap.size w o ∧
     (zE0 xss = true → ∃ f, f.length = xss.length * 2 ∧ prs f xss.length = xss ∧ zIJ w o v f) := by
 cases R : zA8 xss.length 1 16
 ·have D : zE0 xss = false := by unfold zE0; rw [R]; rfl
  rw [D];go_enter Tryz.func204, Tryz.ntmps204;go_wp2_with (go_at_call 160; refine (zEW _ _).mono ?_; rintro e o ⟨rfl, rfl⟩)
  go_ret2
  exact ⟨_, rfl, (Below.refl _ _).alloc (Nat.le_refl _) _, fun h => by cases h⟩
 ·have L : 1 ≤ xss.length ∧ xss.length ≤ 16 := by simp [zA8] at R; omega
  go_enter Tryz.func204, Tryz.ntmps204;go_wp2_with (go_at_call 160; refine (zEW _ _).mono ?_; rintro e o ⟨rfl, m⟩; rw [m]; clear m o)
  refine (zMG _ _ L.2).mono ?_;rintro e w1 ⟨v, rfl, g, c, rfl, Z, I, S, T⟩;go_wp2_with fail
  go_loopw [18] (fun i wr => ∃ k : Nat, k ≤ xss.length ∧ i = .int .i64 k ∧ ∃ f : List Int, f.length = xss.length * 2 ∧ (∀ (i : Nat) d, i < k → xss[i]? = some d → pr f i = d ∧ isL d = true) ∧ zJS w.heap.size wr g c f ∧ Below w.heap.size w wr)
   (fun i _ => xss.length - (intOf i).toNat)
  case atStart => exact ⟨0, Nat.zero_le _, rfl, _, by simp, fun i d r => absurd r (Nat.not_lt_zero _), S, T⟩
  case round =>
   obtain ⟨k, hk, rfl, f, F, l, z, s⟩ := hrel;clear S T I;by_cases J : k < xss.length
   ·have U : (k : Int) < (xss.length : Int) := by omega
    obtain ⟨d, n⟩ := zGw J;obtain ⟨b, mA, aj, cj, rfl, g1, V⟩ := zIN (zIM h s) n;have E : Hid (zDr wr aj d) := V;have N : Hid (xss[k]? = some d) := n;have HA : Hid _ := l;have q : Hid (f.length = xss.length * 2) := F;clear h V n l F;go_wp2_with fail
    refine (zBK _ d _ _ E.out).mono ?_;rintro e w2 ⟨rfl, C⟩;have G := zAa s C;rcases zGz d with X | ⟨x, y, rfl, n, hy⟩
    ·rw [X];have D := zJ9 N.out X;clear N HA E z s C;go_wp2;rw [D];go_ret2
     exact ⟨_, rfl, G.alloc G.size _, fun h => by cases h⟩
    ·have A := zNn n hy;rw [A];have H := zLO z C (zNf z).2;have R2 := zGt E.out C;obtain ⟨b', B, rfl, Y, q2⟩ := zGx R2;have CP := zJ8 w2 3 g (k * 2) w.heap.size c f ⟨b', B, none⟩ 2 cj x y H (by have := q.out; omega) Y (by simpa [Addr.add] using q2);have O : Hid _ := zMH H (k * 2) x y;have M : k * 2 + 2 ≤ c := by have := (owni_cap H).1; have := q.out; omega
     clear E z s C R2 Y q2 H;generalize hW : w2.setCells g (k * 2) [.int .i64 x, .int .i64 y] = W at CP O;clear hW;go_wp2_with (go_at_call 240; refine (cut_any _ _ _ _ _ (by omega) M).mono ?_; rintro e o ⟨rfl, m⟩; rw [m]; clear m o)
     go_roundw
     case rel =>
      refine ⟨k + 1, by omega, by go_num, (f.set (k * 2) x).set (k * 2 + 1) y, by have := q.out; simpa using this, ?_, O.out.1, G.grown O.out.2 G.size (by intro j hj; cases hj; exact Z)⟩;intro i d r p;rw [pr_set f k i x y (by have := q.out; omega)];by_cases e : i = k
      ·subst e;rw [N.out] at p;cases p;exact ⟨if_pos rfl, A⟩
      ·rw [if_neg e];exact HA.out i d (by omega) p
     case measure => simp [intOf]; omega
   ·have K : k = xss.length := by omega
    subst K;have D := zJA R (fun i d r n => (l i d r n).2);have HP : Hid _ := prs_all (fun i d r n => (l i d r n).1);have q : Hid (f.length = xss.length * 2) := F;clear F;go_wp2;rw [D];go_ret2
    exact ⟨_, rfl, s, fun _ => ⟨f, q.out, HP.out, g, c, by rw [q.out]; rfl, Z, (zNf z).2, z, s⟩⟩
theorem zGc (a : Option Addr) (xss : List (List Int)) (cap : Nat) (w : World) (h : zGv w a xss) (hm : xss.length ≤ 9223372036854775807) :
    Calls Tryz.prog 161 #[.slice a xss.length cap] w fun e w' => e = .returned (.bool (zE0 xss)) ∧ Below w.heap.size w w' := by
 go_enter Tryz.func161, Tryz.ntmps161;go_wp2_with fail
 refine (zOE _ xss _ _ h hm).mono ?_;rintro e w1 ⟨v, rfl, b, _⟩;go_wp2;go_ret
 exact ⟨rfl, b⟩
theorem zGd (a : Option Addr) (xss : List (List Int)) (cap : Nat) (w : World) (h : zGv w a xss) (hm : xss.length ≤ 2305843009213693952) :
    Calls Tryz.prog 141 #[.slice a xss.length cap] w fun e g => e = .returned (.bool (zE0 xss)) ∧ g = w := by
 go_enter Tryz.func141, Tryz.ntmps141;go_wp2;go_loop [3] (fun i => ∃ k : Nat, k ≤ xss.length ∧ i = .int .i64 k ∧ ∀ (i : Nat) f, i < k → xss[i]? = some f → isL f = true) (fun i => xss.length - (intOf i).toNat)
 case atStart => exact ⟨0, Nat.zero_le _, rfl, fun i f hi => absurd hi (Nat.not_lt_zero _)⟩
 case round =>
  obtain ⟨k, hk, rfl, c⟩ := hrel;by_cases l : k < xss.length
  ·have p : (k : Int) < (xss.length : Int) := by omega
   obtain ⟨f, m⟩ := zGw l;obtain ⟨b, A, z, cj, rfl, g1, q⟩ := zIN h m;have o : Hid (zDr w z f) := q;have r : Hid (xss[k]? = some f) := m;have y : Hid _ := c;clear h q m c;cases j : isL f
   ·have s := zJ9 r.out j;go_wp2_with (go_at_call 144; refine (zB4 _ f _ _ o.out).mono ?_; rintro e g ⟨rfl, d⟩; rw [d, j]; clear d g)
    go_ret
    exact ⟨zAl (by first | rfl | exact s.symm | simp [s]), rfl⟩
   ·go_wp2_with (go_at_call 144; refine (zB4 _ f _ _ o.out).mono ?_; rintro e g ⟨rfl, d⟩; rw [d, j]; clear d g)
    go_round
    case rel =>
     refine ⟨k + 1, by omega, by go_num, fun i ys hi hy => ?_⟩;by_cases e : i = k
     ·subst e;rw [r.out] at hy;cases hy;exact j
     ·exact y.out i ys (by omega) hy
    case measure => simp [intOf]; omega
  ·have n : k = xss.length := by omega
   subst n;have B : Hid (zA8 (xss.length : Int) 1 16 = zE0 xss) := by
    unfold Hid;cases v : zA8 (xss.length : Int) 1 16
    ·unfold zE0; rw [v]; rfl
    ·exact (zJA v c).symm
   clear c;go_wp2_with (go_at_call 98; refine (zAo _ _ _ _).mono ?_; rintro e g ⟨rfl, rfl⟩)
   go_ret
   exact ⟨zAl B.out, rfl⟩
def zCe (x : zDx) : Bool := zE0 x.1 && (decide (x.2.length = x.1.length) && x.2.all zDD)
theorem zOF {x : zDx} (h : zAU.bk x ≤ 1048576) : x.1.length ≤ 1048576 ∧ x.2.length ≤ 1048576 := by
 have e : zAU.bk x = (x.1.length + zA6 zAs x.1) + (x.2.length + zA6 zDv x.2) := rfl;omega
theorem ent_at {w : World} {a : Option Addr} {xs : List zAW} {k : Nat} {x : zAW} (h : zA4 zBT w a xs) (hx : xs[k]? = some x) :
    ∃ b off ad cp, a = some ⟨b, off, none⟩ ∧ w.cell? ⟨b, off + k * 8, none⟩ = some (.int .i64 x.1) ∧ w.cell? ⟨b, off + k * 8 + 1, none⟩ = some (.int .i64 x.2.1) ∧ w.cell? ⟨b, off + k * 8 + 2, none⟩ = some (.bool x.2.2.1) ∧ w.cell? ⟨b, off + k * 8 + 3, none⟩ = some (.int .i64 x.2.2.2.1) ∧ w.cell? ⟨b, off + k * 8 + 4, none⟩ = some (.int .i64 x.2.2.2.2.1) ∧ w.cell? ⟨b, off + k * 8 + 5, none⟩ = some (.int .i64 x.2.2.2.2.2.1) ∧ w.cell? ⟨b, off + k * 8 + 6, none⟩ = some (.int .i64 x.2.2.2.2.2.2.1) ∧ w.cell? ⟨b, off + k * 8 + 7, none⟩ = some (.slice ad x.2.2.2.2.2.2.2.length cp) ∧ zA4 zAG w ad x.2.2.2.2.2.2.2 := by
 obtain ⟨b, off, cs, rfl, hrd, hcell⟩ := zAy h hx;obtain ⟨ad, cp, rfl, -, -, -, -, -, -, -, -, hd⟩ := zFM hrd;exact ⟨b, off, ad, cp, rfl, hcell 0 _ rfl, hcell 1 _ rfl, hcell 2 _ rfl, hcell 3 _ rfl, hcell 4 _ rfl, hcell 5 _ rfl, hcell 6 _ rfl, hcell 7 _ rfl, hd⟩
theorem zKJ (x : zAW) (ad : Option Addr) (cp : Nat) (w : World) (h : zA4 zAG w ad x.2.2.2.2.2.2.2) :
    Calls Tryz.prog 205 #[.agg #[.int .i64 x.1, .int .i64 x.2.1, .bool x.2.2.1, .int .i64 x.2.2.2.1, .int .i64 x.2.2.2.2.1, .int .i64 x.2.2.2.2.2.1, .int .i64 x.2.2.2.2.2.2.1, .slice ad x.2.2.2.2.2.2.2.length cp]] w fun e w' => e = .returned (.bool (!zDD x)) ∧ Below w.heap.size w w' := by
 have B := zAf w (.cells #[.int .i64 x.1, .int .i64 x.2.1, .bool x.2.2.1, .int .i64 x.2.2.2.1, .int .i64 x.2.2.2.2.1, .int .i64 x.2.2.2.2.2.1, .int .i64 x.2.2.2.2.2.2.1, .slice ad x.2.2.2.2.2.2.2.length cp] 147);have HM : Hid (∀ W, Below w.heap.size w W → Calls Tryz.prog 206 #[.agg #[.int .i64 x.1, .int .i64 x.2.1, .bool x.2.2.1, .int .i64 x.2.2.2.1, .int .i64 x.2.2.2.2.1, .int .i64 x.2.2.2.2.2.1, .int .i64 x.2.2.2.2.2.2.1, .slice ad x.2.2.2.2.2.2.2.length cp]] W fun e w' => e = .returned (.bool (zDD x)) ∧ Below W.heap.size W w') := fun W hb => zEz x.1 x.2.1 x.2.2.2.1 x.2.2.2.2.1 x.2.2.2.2.2.1 x.2.2.2.2.2.2.1 x.2.2.1 x.2.2.2.2.2.2.2 ad cp W (zAm h hb);generalize zDD x = q at HM ⊢;clear h;go_enter Tryz.func205, Tryz.ntmps205;go_wp2_with fail
 generalize w.alloc (.cells #[.int .i64 x.1, .int .i64 x.2.1, .bool x.2.2.1, .int .i64 x.2.2.2.1, .int .i64 x.2.2.2.2.1, .int .i64 x.2.2.2.2.2.1, .int .i64 x.2.2.2.2.2.2.1, .slice ad x.2.2.2.2.2.2.2.length cp] 147) = W0 at B ⊢;refine (HM.out _ B).mono ?_;rintro e w1 ⟨rfl, b1⟩;go_wp2;go_ret
 exact ⟨rfl, zAa B b1⟩
theorem zIv (a : Option Addr) (xs : List zAW) (cap : Nat) (w : World) (h : zA4 zBT w a xs) (hm : xs.length ≤ maxLen) :
    Calls Tryz.prog 207 #[.slice a xs.length cap, .func (.func 205) #[] #[]] w fun e w' => e = .returned (.int .i64 (zDW zDD xs)) ∧ Below w.heap.size w w' := by
 have hm' : xs.length ≤ 9223372036854775807 := hm;have H0 : Hid (∀ W, Below w.heap.size w W → zA4 zBT W a xs) := fun W hb => zAq h fun k hk => hb.block k hk;clear h hm;go_enter Tryz.func207, Tryz.ntmps207;go_wp2;go_loopw [8] (fun i wr => ∃ k : Nat, k ≤ xs.length ∧ i = .int .i64 k ∧ (∀ j v, j < k → xs[j]? = some v → zDD v = true) ∧ Below w.heap.size w wr) (fun i _ => xs.length - (intOf i).toNat)
 case atStart => exact ⟨0, Nat.zero_le _, rfl, fun j v hj => by omega, Below.refl _ _⟩
 case round =>
  obtain ⟨k, hk, rfl, hno, BB⟩ := hrel;by_cases hlt : k < xs.length
  ·have hlt' : (k : Int) < (xs.length : Int) := by omega
   obtain ⟨x, hx⟩ : ∃ x, xs[k]? = some x := ⟨_, List.getElem?_eq_getElem hlt⟩;obtain ⟨b, off, ad, cp, rfl, x0, x1, x2, x3, x4, x5, x6, x7, hd⟩ := ent_at (H0.out _ BB) hx;have HC := zKJ x ad cp wr hd;clear hd;have HX : Hid (xs[k]? = some x) := hx;clear hx;cases hb : zDD x
   ·have HR : Hid (zDW zDD xs = k) := zEu HX.out hb hno;rw [hb] at HC;go_wp2_with fail
    refine HC.mono ?_;rintro e w2 ⟨rfl, b2⟩;replace BB := zAa BB b2;clear b2 x0 x1 x2 x3 x4 x5 x6 x7;go_wp2;go_ret
    exact ⟨zAx HR.out.symm, BB⟩
   ·rw [hb] at HC;go_wp2_with fail
    refine HC.mono ?_;rintro e w2 ⟨rfl, b2⟩;replace BB := zAa BB b2;clear b2 x0 x1 x2 x3 x4 x5 x6 x7;go_wp2;go_roundw
    case rel =>
     refine ⟨k + 1, by omega, by go_num, fun j v hj hv => ?_, BB⟩;by_cases he : j < k
     ·exact hno j v he hv
     ·have : j = k := by omega
      subst this;rw [HX.out] at hv;cases hv;exact hb
    case measure => simp [intOf]; omega
  ·have HR : Hid (zDW zDD xs = -1) := zDT fun j v hv => hno j v (by have := (List.getElem?_eq_some_iff.1 hv).1; omega) hv;go_wp2;go_ret
   exact ⟨zAx HR.out.symm, BB⟩
theorem zGe (a : Option Addr) (xs : List zAW) (cap : Nat) (w : World) (h : zA4 zBT w a xs) (hm : xs.length ≤ maxLen) :
    Calls Tryz.prog 163 #[.slice a xs.length cap, .func (.func 205) #[] #[]] w fun e w' => e = .returned (.bool (!xs.all zDD)) ∧ Below w.heap.size w w' := by
 have HI := zIv a xs cap w h hm;have hab := zD8 zDD xs;clear h hm;generalize zDW zDD xs = q at HI hab;generalize xs.all zDD = y at hab ⊢;subst hab;by_cases hq : q < 0
 ·have hq2 : ¬ (0 ≤ q) := by omega
  go_enter Tryz.func163, Tryz.ntmps163;go_wp2_with fail
  refine HI.mono ?_;rintro e w1 ⟨rfl, b1⟩;go_wp2;go_ret
  exact ⟨by simp [hq], b1⟩
 ·have hq2 : 0 ≤ q := by omega
  go_enter Tryz.func163, Tryz.ntmps163;go_wp2_with fail
  refine HI.mono ?_;rintro e w1 ⟨rfl, b1⟩;go_wp2;go_ret
  exact ⟨by simp [hq], b1⟩
theorem zHu (a : Option Addr) (xs : List zAW) (cap : Nat) (w : World) (h : zA4 zBT w a xs) (hm : xs.length ≤ maxLen) :
    Calls Tryz.prog 162 #[.slice a xs.length cap] w fun e w' => e = .returned (.bool (xs.all zDD)) ∧ Below w.heap.size w w' := by
 have HC := zGe a xs cap w h hm;generalize xs.all zDD = y at HC ⊢;clear h hm;go_enter Tryz.func162, Tryz.ntmps162;go_wp2_with fail
 refine HC.mono ?_;rintro e w1 ⟨rfl, b1⟩;go_wp2;go_ret
 exact ⟨by simp, b1⟩
theorem zIw (cs : List Value) (x : zDx) (w : World) (h : zBF.rd w cs x) :
    Calls Tryz.prog 120 #[zBq cs] w fun e w' => e = .returned (.bool (zCe x)) ∧ Below w.heap.size w w' := by
 obtain ⟨v0, v1, rfl, ⟨a0, c0, e0, l1, l2, q0⟩, ⟨a1, c1, e1, m1, m2, q1⟩⟩ := zDi h;simp only [List.cons.injEq, and_true] at e0 e1;obtain rfl := e0;obtain rfl := e1;clear h;change Calls Tryz.prog 120 #[.agg #[.slice a0 x.1.length c0, .slice a1 x.2.length c1]] w _
 have HM : Hid (∀ W, Below w.heap.size w W → Calls Tryz.prog 161 #[.slice a0 x.1.length c0] W fun e w' => e = .returned (.bool (zE0 x.1)) ∧ Below W.heap.size W w') := fun W hb => zGc a0 x.1 c0 W (zIO (zAm q0 hb)) (Nat.le_trans l1 l2);have HB : Hid (∀ W, Below w.heap.size w W → Calls Tryz.prog 162 #[.slice a1 x.2.length c1] W fun e w' => e = .returned (.bool (x.2.all zDD)) ∧ Below W.heap.size W w') := fun W hb => zHu a1 x.2 c1 W (zAm q1 hb) (Nat.le_trans m1 m2);have hl1 : x.1.length ≤ 9223372036854775807 := Nat.le_trans l1 l2;have hl2 : x.2.length ≤ 9223372036854775807 := Nat.le_trans m1 m2;clear q0 q1 l1 l2 m1 m2;have X := zAn w (.cells #[.slice a0 x.1.length c0, .slice a1 x.2.length c1] 42);have B := zAf w (.cells #[.slice a0 x.1.length c0, .slice a1 x.2.length c1] 42);unfold zCe;generalize zE0 x.1 = q at HM ⊢;generalize x.2.all zDD = r at HB ⊢;generalize x.1.length = n at *;generalize x.2.length = m at *;go_enter Tryz.func120, Tryz.ntmps120;go_wp2_with fail
 generalize w.alloc (.cells #[.slice a0 n c0, .slice a1 m c1] 42) = W0 at X B ⊢;refine (HM.out _ B).mono ?_;rintro e w1 ⟨rfl, bq⟩;replace X := zAb bq X;replace B := zAa B bq;clear bq;obtain ⟨x0, x1⟩ := zAM X;cases q
 ·clear X;go_wp2;go_ret
  exact ⟨rfl, B⟩
 ·by_cases he : m = n
  ·subst he;have he2 : ((m : Int) == (m : Int)) = true := by simp
   go_wp2_with fail
   refine (HB.out _ B).mono ?_;rintro e w2 ⟨rfl, bq⟩;replace B := zAa B bq;clear bq X x0 x1;go_wp2;go_ret
   exact ⟨by simp, B⟩
  ·have he2 : ((m : Int) == (n : Int)) = false := by simp; omega
   clear X;go_wp2;go_ret
   exact ⟨by simp [he], B⟩
theorem zIx (cs : List Value) (x : zDx) (w : World) (h : zBF.rd w cs x) (hk : zAU.bk x ≤ 1048576) :
    Calls Tryz.prog 90 #[zBq cs] w fun e w' => e = .returned (.bool (zCe x)) ∧ Below w.heap.size w w' := by
 obtain ⟨v0, v1, rfl, ⟨a0, c0, e0, l1, l2, q0⟩, ⟨a1, c1, e1, m1, m2, q1⟩⟩ := zDi h;simp only [List.cons.injEq, and_true] at e0 e1;obtain rfl := e0;obtain rfl := e1;clear h;obtain ⟨hl1, hl2⟩ := zOF hk;change Calls Tryz.prog 90 #[.agg #[.slice a0 x.1.length c0, .slice a1 x.2.length c1]] w _
 have HM : Hid (∀ W, Below w.heap.size w W → Calls Tryz.prog 141 #[.slice a0 x.1.length c0] W fun e w' => e = .returned (.bool (zE0 x.1)) ∧ Below W.heap.size W w') := fun W hb => (zGd a0 x.1 c0 W (zIO (zAm q0 hb)) (by omega)).mono fun e w' ⟨q, r⟩ => ⟨q, zEO r⟩;have HE : Hid (∀ W, Below w.heap.size w W → zA4 zBT W a1 x.2) := fun W hb => zAm q1 hb;clear q0 q1 l1 l2 m1 m2 hk;have X := zAn w (.cells #[.slice a0 x.1.length c0, .slice a1 x.2.length c1] 42);have B := zAf w (.cells #[.slice a0 x.1.length c0, .slice a1 x.2.length c1] 42);have HF : Hid (zE0 x.1 = false → zCe x = false) := fun e => by unfold zCe; rw [e]; rfl
 have HG : Hid (¬ x.2.length = x.1.length → zCe x = false) := fun e => by unfold zCe; simp [e]
 have HB : Hid (∀ j u, x.2[j]? = some u → zDD u = false → zCe x = false) := fun j u hu e => by
  have : x.2.all zDD = false := by
   cases hh : x.2.all zDD
   ·rfl
   ·rw [List.all_eq_true] at hh;rw [hh u (List.mem_of_getElem? hu)] at e;cases e
  unfold zCe;simp [this]
 have HT : Hid (zE0 x.1 = true → x.2.length = x.1.length → (∀ j u, x.2[j]? = some u → zDD u = true) → zCe x = true) := fun e1 e2 e3 => by
  have : x.2.all zDD = true := List.all_eq_true.2 fun u hu => by
   obtain ⟨j, hj⟩ := List.getElem?_of_mem hu;exact e3 j u hj
  unfold zCe;simp [e1, e2, this]
 cases hmm : zE0 x.1
 ·rw [HF.out hmm];rw [hmm] at HM;generalize x.1.length = n at *;generalize x.2.length = m at *;go_enter Tryz.func90, Tryz.ntmps90;go_wp2_with fail
  generalize w.alloc (.cells #[.slice a0 n c0, .slice a1 m c1] 42) = W0 at X B ⊢;refine (HM.out _ B).mono ?_;rintro e w1 ⟨rfl, bq⟩;replace B := zAa B bq;clear bq X;go_wp2;go_ret
  exact ⟨rfl, B⟩
 by_cases he : x.2.length = x.1.length
 ·rw [hmm] at HM;have HT2 : Hid ((∀ j u, x.2[j]? = some u → zDD u = true) → zCe x = true) := HT.out hmm he;rw [← he] at HM X B ⊢;clear HT HF HG hmm hl1 he;go_enter Tryz.func90, Tryz.ntmps90;go_wp2_with fail
  generalize w.alloc (.cells #[.slice a0 x.2.length c0, .slice a1 x.2.length c1] 42) = W0 at X B ⊢;refine (HM.out _ B).mono ?_;rintro e w1 ⟨rfl, bq⟩;replace X := zAb bq X;replace B := zAa B bq;clear bq;obtain ⟨x0, x1⟩ := zAM X;go_wp2;clear x0 x1;go_loopw [3] (fun i wr => ∃ k : Nat, k ≤ x.2.length ∧ i = .int .i64 k ∧ (∀ j v, j < k → x.2[j]? = some v → zDD v = true) ∧ Below w.heap.size w wr ∧ wr.heap[w.heap.size]? = some (.cells #[.slice a0 x.2.length c0, .slice a1 x.2.length c1] 42 (0, 0))) (fun i _ => x.2.length - (intOf i).toNat)
  case atStart => exact ⟨0, Nat.zero_le _, rfl, fun j v hj => by omega, B, X⟩
  case round =>
   obtain ⟨k, hk, rfl, hno, BB, XX⟩ := hrel;obtain ⟨x0, x1⟩ := zAM XX;by_cases hlt : k < x.2.length
   ·have hlt' : (k : Int) < (x.2.length : Int) := by omega
    obtain ⟨y, hy⟩ : ∃ y, x.2[k]? = some y := ⟨_, List.getElem?_eq_getElem hlt⟩;obtain ⟨b, off, ad, cp, rfl, z0, z1, z2, z3, z4, z5, z6, z7, hd⟩ := ent_at (HE.out _ BB) hy;have HC := zGM y.1 y.2.1 y.2.2.2.1 y.2.2.2.2.1 y.2.2.2.2.2.1 y.2.2.2.2.2.2.1 y.2.2.1 y.2.2.2.2.2.2.2 ad cp wr hd;rw [show zDD (y.1, y.2.1, y.2.2.1, y.2.2.2.1, y.2.2.2.2.1, y.2.2.2.2.2.1, y.2.2.2.2.2.2.1, y.2.2.2.2.2.2.2) = zDD y from rfl] at HC;have HX : Hid (x.2[k]? = some y) := hy;clear hy hd;cases hb : zDD y
    ·rw [hb] at HC;go_wp2_with fail
     refine HC.mono ?_;rintro e w2 ⟨rfl, b2⟩;replace BB := zAa BB b2;clear b2 z0 z1 z2 z3 z4 z5 z6 z7 x0 x1 XX X B;go_wp2;go_ret
     exact ⟨zAl (HB.out k y HX.out hb).symm, BB⟩
    ·rw [hb] at HC;go_wp2_with fail
     refine HC.mono ?_;rintro e w2 ⟨rfl, b2⟩;replace BB := zAa BB b2;replace XX := zAb b2 XX;clear b2 z0 z1 z2 z3 z4 z5 z6 z7 x0 x1 X B;go_wp2;go_roundw
     case rel =>
      refine ⟨k + 1, by omega, by go_num, fun j v hj hv => ?_, BB, XX⟩;by_cases he : j < k
      ·exact hno j v he hv
      ·have : j = k := by omega
       subst this;rw [HX.out] at hv;cases hv;exact hb
     case measure => simp [intOf]; omega
   ·have HR : Hid (zCe x = true) := HT2.out fun j v hv => hno j v (by have := (List.getElem?_eq_some_iff.1 hv).1; omega) hv;go_wp2;go_ret
    exact ⟨zAl HR.out.symm, BB⟩
 ·rw [HG.out he];rw [hmm] at HM;have he2 : ¬ ((x.2.length : Int) = (x.1.length : Int)) := by omega
  have he3 : ((x.2.length : Int) != (x.1.length : Int)) = true := by simp; omega
  clear HT HF HG HB HE hmm he;generalize x.1.length = n at *;generalize x.2.length = m at *;go_enter Tryz.func90, Tryz.ntmps90;go_wp2_with fail
  generalize w.alloc (.cells #[.slice a0 n c0, .slice a1 m c1] 42) = W0 at X B ⊢;refine (HM.out _ B).mono ?_;rintro e w1 ⟨rfl, bq⟩;replace X := zAb bq X;replace B := zAa B bq;clear bq;obtain ⟨x0, x1⟩ := zAM X;clear X;go_wp2;go_ret
  exact ⟨rfl, B⟩
end Go.Proofs.YtcocbafhcpdheaaGreatDoor
