import Derived.Test.YtcocbafhcpdheaaGreatDoorP00Box
import Derived.Laws.IdiomCopy
import Derived.Laws.Slices
import Derived.Test.YtcocbafhcpdheaaGreatDoorP28RepInt64SS
import Derived.Test.YtcocbafhcpdheaaGreatDoorP26EntOk
namespace Go.Proofs.YtcocbafhcpdheaaGreatDoor
set_option maxHeartbeats 4000000
open Go.ChangeShapes Go.WideShapes Go.ChangeAt Go.RowKit
theorem made_zeroM (n : Nat) : (madeCells #[.int .i64 0] n).toList = (List.replicate n (0 : Int)).map (Value.int .i64) := by
 apply List.ext_getElem?
 intro i;simp only [madeCells, Array.toList_map, Array.toList_range, List.getElem?_map, List.getElem?_replicate];by_cases h : i < n
 ·simp [h, Nat.mod_one]
 ·simp [h]
theorem owni_cap {B g cap : Nat} {w : World} {zs : List Int} (h : OwnI B w g cap zs) : zs.length ≤ cap ∧ cap ≤ maxLen := by
 rcases h.2 with ⟨h', _⟩ | ⟨g', cap', cur, h', hb', hgg, hc, hm, rest⟩
 ·simp at h'
 ·simp only [Value.slice.injEq, Option.some.injEq, Addr.mk.injEq, and_true, true_and] at h';obtain ⟨rfl, rfl⟩ := h';exact ⟨hc, hm⟩
theorem newRow_any (n : Nat) (w : World) (hn : n ≤ 16) : Calls Tryz.prog 239 #[.int .i64 n] w fun e w' => ∃ v, e = .returned v ∧ Made w w' v (List.replicate (n * 2) 0) := by
 have a := Go.run_make_row' (P := Tryz.prog) 225 2 (.int .i64 0) 8 Tryz.underlying225 Tryz.infoI rfl .i64 .i64 (n * 2) (by omega) (by omega);have c : ((n * 2 : Nat) : Int) = (n : Int) * 2 := by omega
 simp only [c] at a;have M := made_lit w (madeCells #[.int .i64 0] (n * 2)) (List.replicate (n * 2) 0) (made_zeroM _) (by unfold maxLen; simp; omega);rw [List.length_replicate] at M;have b : Hid _ := M;clear M;go_enter Tryz.func239, Tryz.ntmps239;go_wp2;go_ret
 exact ⟨_, rfl, b.out⟩
theorem cut_any (g n cap j : Nat) (w : World) (hj : j ≤ 16) (h : j * 2 + 2 ≤ cap) : Calls Tryz.prog 240 #[.slice (some ⟨g, 0, none⟩) n cap, .int .i64 j] w fun e w' => e = .returned (.slice (some ⟨g, j * 2, none⟩) 2 2) ∧ w' = w := by
 go_enter Tryz.func240, Tryz.ntmps240;go_wp2;go_ret
 refine ⟨?_, rfl⟩;have a : j * 2 + 2 - j * 2 = 2 := by omega
 rw [a];rfl
def pr (zs : List Int) (j : Nat) : List Int := [zs.getD (j * 2) 0, zs.getD (j * 2 + 1) 0]
def prs (zs : List Int) (n : Nat) : List (List Int) := (List.range n).map (pr zs)
theorem Tryz.sizeI : (Tryz.prog.info? 2).map (·.size) = some 1 := by kernel_rfl
theorem copied_two {B g cap : Nat} {w : World} {zs : List Int} (h : OwnI B w g cap zs) (o : Nat) (x y : Int) :
    OwnI B (w.setCells g o [.int .i64 x, .int .i64 y]) g cap ((zs.set o x).set (o + 1) y) ∧ w.grownBy (w.setCells g o [.int .i64 x, .int .i64 y]) (some g) := by
 have b := World.ownsRow.stored h o (.int .i64 x);have a := World.ownsRow.stored b.1 (o + 1) (.int .i64 y);refine ⟨?_, grown_trans b.2 a.2⟩;unfold OwnI;rw [List.length_set, List.length_set, List.map_set, List.map_set];exact a.1
theorem owni_at {B g cap : Nat} {w : World} {zs : List Int} (h : OwnI B w g cap zs) (i : Nat) (hi : i < zs.length) : w.cell? ⟨g, i, none⟩ = some (.int .i64 (zs.getD i 0)) := by
 rw [World.ownsRow.cellAt h i (by omega)];simp [List.getD_eq_getElem?_getD, hi]
theorem run_copy_two (w : World) (ty : TypeId) (b o : Nat) (B cap : Nat) (zs : List Int) (a : Addr) (dc sc : Nat) (x y : Int) (h : OwnI B w b cap zs) (ho : o + 2 ≤ zs.length)
    (h0 : w.cell? a = some (.int .i64 x)) (h1 : w.cell? (a.add 1) = some (.int .i64 y)) :
    (Builtin.copy_ #[37, 37] ty #[.slice (some ⟨b, o, none⟩) 2 dc, .slice (some a) 2 sc]).run Tryz.prog w = .ok (.int .i64 2) (w.setCells b o [.int .i64 x, .int .i64 y]) := by
 refine run_copy_cells (P := Tryz.prog) w 37 37 ty 2 b o 2 dc a 2 sc [.int .i64 x, .int .i64 y] Tryz.underlying37 Tryz.sizeI rfl ?_ ?_ ?_ ?_
 ·intro j v c;match j, c with
  | 0, c => simp at c; subst c; rw [show a.add 0 = a from by simp [Addr.add]]; exact h0
  | 1, c => simp at c; subst c; exact h1
 ·intro j c;rw [owni_at h (o + j) (by simp at c; omega)];rfl
 ·intro j _;exact World.ownsRow.frozenAt h (o + j)
 ·intro v d;simp at d
  rcases d with rfl | rfl <;> rfl
theorem prs_len (zs : List Int) (n : Nat) : (prs zs n).length = n := by simp [prs]
theorem pr_set (zs : List Int) (k i : Nat) (x y : Int) (h : k * 2 + 1 < zs.length) : pr ((zs.set (k * 2) x).set (k * 2 + 1) y) i = if i = k then [x, y] else pr zs i := by
 unfold pr;by_cases e : i = k
 ·subst e;simp [List.getD_eq_getElem?_getD, show i * 2 < zs.length by omega, h]
 ·rw [if_neg e];have a : ¬ k * 2 = i * 2 := by omega
  have d : ¬ k * 2 + 1 = i * 2 := by omega
  have c : ¬ k * 2 = i * 2 + 1 := by omega
  have b : ¬ k * 2 + 1 = i * 2 + 1 := by omega
  rw [List.getD_eq_getElem?_getD, List.getD_eq_getElem?_getD, List.getElem?_set_ne d, List.getElem?_set_ne a, List.getElem?_set_ne b, List.getElem?_set_ne c, ← List.getD_eq_getElem?_getD, ← List.getD_eq_getElem?_getD]
theorem prs_get {zs : List Int} {n i : Nat} (h : i < n) : (prs zs n)[i]? = some (pr zs i) := by simp [prs, h]
def memOk (xss : List (List Int)) : Bool := betw xss.length 1 16 && xss.all isL
theorem memOk_not {xss : List (List Int)} {k : Nat} {xs : List Int} (hx : xss[k]? = some xs) (hn : isL xs = false) : memOk xss = false := by
 unfold memOk;rw [Bool.and_eq_false_iff];right
 rw [List.all_eq_false];exact ⟨xs, List.mem_of_getElem? hx, by simp [hn]⟩
theorem memOk_all {xss : List (List Int)} (hl : betw xss.length 1 16 = true) (h : ∀ (i : Nat) a, i < xss.length → xss[i]? = some a → isL a = true) : memOk xss = true := by
 unfold memOk;rw [hl, Bool.true_and, List.all_eq_true];intro a c;obtain ⟨i, b, rfl⟩ := List.mem_iff_getElem.1 c;exact h i _ b (List.getElem?_eq_getElem b)
theorem prs_all {xss : List (List Int)} {zs : List Int} (h : ∀ (i : Nat) a, i < xss.length → xss[i]? = some a → pr zs i = a) : prs zs xss.length = xss := by
 apply List.ext_getElem?
 intro i;by_cases b : i < xss.length
 ·obtain ⟨a, c⟩ := get_of_lt b;rw [prs_get b, c, h i a b c]
 ·rw [List.getElem?_eq_none (by rw [prs_len]; omega), List.getElem?_eq_none (by omega)]
theorem rowOf_any (a : Option Addr) (xss : List (List Int)) (cap : Nat) (w : World) (h : ReadsM w a xss) (hm : xss.length ≤ 9223372036854775807) :
    Calls Tryz.prog 204 #[.slice a xss.length cap] w fun e o => ∃ v, e = .returned (.tuple #[v, .bool (memOk xss)]) ∧ Below w.heap.size w o ∧
     (memOk xss = true → ∃ l, l.length = xss.length * 2 ∧ prs l xss.length = xss ∧ Made w o v l) := by
 cases N : betw xss.length 1 16
 ·have C : memOk xss = false := by unfold memOk; rw [N]; rfl
  rw [C];go_enter Tryz.func204, Tryz.ntmps204;go_wp2_with (go_at_call 160; refine (linesOk_any _ _).mono ?_; rintro e o ⟨rfl, rfl⟩)
  go_ret2
  exact ⟨_, rfl, (Below.refl _ _).alloc (Nat.le_refl _) _, fun h => by cases h⟩
 ·have O : 1 ≤ xss.length ∧ xss.length ≤ 16 := by simp [betw] at N; omega
  go_enter Tryz.func204, Tryz.ntmps204;go_wp2_with (go_at_call 160; refine (linesOk_any _ _).mono ?_; rintro e o ⟨rfl, m⟩; rw [m]; clear m o)
  refine (newRow_any _ _ O.2).mono ?_;rintro e w1 ⟨v, rfl, g, c, rfl, V, L, o1, X⟩;go_wp2_with fail
  go_loopw [18] (fun i wr => ∃ k : Nat, k ≤ xss.length ∧ i = .int .i64 k ∧ ∃ l : List Int, l.length = xss.length * 2 ∧ (∀ (i : Nat) d, i < k → xss[i]? = some d → pr l i = d ∧ isL d = true) ∧ OwnI w.heap.size wr g c l ∧ Below w.heap.size w wr)
   (fun i _ => xss.length - (intOf i).toNat)
  case atStart => exact ⟨0, Nat.zero_le _, rfl, _, by simp, fun i d z => absurd z (Nat.not_lt_zero _), o1, X⟩
  case round =>
   obtain ⟨k, hk, rfl, l, I, f, s, A⟩ := hrel;clear o1 X L;by_cases J : k < xss.length
   ·have Y : (k : Int) < (xss.length : Int) := by omega
    obtain ⟨d, n⟩ := get_of_lt J;obtain ⟨b, kA, aj, cj, rfl, g1, hr⟩ := readsM_at (readsM_below h A) n;have G : Hid (Reads wr aj d) := hr;have M : Hid (xss[k]? = some d) := n;have HA : Hid _ := f;have r : Hid (l.length = xss.length * 2) := I;clear h hr n f I;go_wp2_with fail
    refine (implLineOk_any _ d _ _ G.out).mono ?_;rintro e w2 ⟨rfl, D⟩;have H := below_step A D;rcases q d with U | ⟨x, y, rfl, n, hy⟩
    ·rw [U];have C := memOk_not M.out U;clear M HA G s A D;go_wp2;rw [C];go_ret2
     exact ⟨_, rfl, H.alloc H.size _, fun h => by cases h⟩
    ·have B := isL_yes n hy;rw [B];have F := owni_below s D (owni_lt s).2;have T := reads_below G.out D;obtain ⟨b', E, rfl, q1, Z⟩ := reads_two T;have CP := run_copy_two w2 3 g (k * 2) w.heap.size c l ⟨b', E, none⟩ 2 cj x y F (by have := r.out; omega) q1 (by simpa [Addr.add] using Z);have K : Hid _ := copied_two F (k * 2) x y;have S : k * 2 + 2 ≤ c := by have := (owni_cap F).1; have := r.out; omega
     clear G s A D T q1 Z F;generalize hW : w2.setCells g (k * 2) [.int .i64 x, .int .i64 y] = W at CP K;clear hW;go_wp2_with (go_at_call 240; refine (cut_any _ _ _ _ _ (by omega) S).mono ?_; rintro e o ⟨rfl, m⟩; rw [m]; clear m o)
     go_roundw
     case rel =>
      refine ⟨k + 1, by omega, by go_num, (l.set (k * 2) x).set (k * 2 + 1) y, by have := r.out; simpa using this, ?_, K.out.1, H.grown K.out.2 H.size (by intro j hj; cases hj; exact V)⟩;intro i d z p;rw [pr_set l k i x y (by have := r.out; omega)];by_cases e : i = k
      ·subst e;rw [M.out] at p;cases p;exact ⟨if_pos rfl, B⟩
      ·rw [if_neg e];exact HA.out i d (by omega) p
     case measure => simp [intOf]; omega
   ·have R : k = xss.length := by omega
    subst R;have C := memOk_all N (fun i d z n => (f i d z n).2);have HP : Hid _ := prs_all (fun i d z n => (f i d z n).1);have r : Hid (l.length = xss.length * 2) := I;clear I;go_wp2;rw [C];go_ret2
    exact ⟨_, rfl, A, fun _ => ⟨l, r.out, HP.out, g, c, by rw [r.out]; rfl, V, (owni_lt s).2, s, A⟩⟩
theorem implMemoryOk_any (a : Option Addr) (xss : List (List Int)) (cap : Nat) (w : World) (h : ReadsM w a xss) (hm : xss.length ≤ 9223372036854775807) :
    Calls Tryz.prog 161 #[.slice a xss.length cap] w fun e w' => e = .returned (.bool (memOk xss)) ∧ Below w.heap.size w w' := by
 go_enter Tryz.func161, Tryz.ntmps161;go_wp2_with fail
 refine (rowOf_any _ xss _ _ h hm).mono ?_;rintro e w1 ⟨v, rfl, b, _⟩;go_wp2;go_ret
 exact ⟨rfl, b⟩
theorem specMemoryOk_any (a : Option Addr) (xss : List (List Int)) (cap : Nat) (w : World) (h : ReadsM w a xss) (hm : xss.length ≤ 2305843009213693952) :
    Calls Tryz.prog 141 #[.slice a xss.length cap] w fun e g => e = .returned (.bool (memOk xss)) ∧ g = w := by
 go_enter Tryz.func141, Tryz.ntmps141;go_wp2;go_loop [3] (fun i => ∃ k : Nat, k ≤ xss.length ∧ i = .int .i64 k ∧ ∀ (i : Nat) f, i < k → xss[i]? = some f → isL f = true) (fun i => xss.length - (intOf i).toNat)
 case atStart => exact ⟨0, Nat.zero_le _, rfl, fun i f hi => absurd hi (Nat.not_lt_zero _)⟩
 case round =>
  obtain ⟨k, hk, rfl, c⟩ := hrel;by_cases l : k < xss.length
  ·have q : (k : Int) < (xss.length : Int) := by omega
   obtain ⟨f, m⟩ := get_of_lt l;obtain ⟨b, B, y, cj, rfl, g1, v⟩ := readsM_at h m;have o : Hid (Reads w y f) := v;have r : Hid (xss[k]? = some f) := m;have z : Hid _ := c;clear h v m c;cases j : isL f
   ·have p := memOk_not r.out j;go_wp2_with (go_at_call 144; refine (specLineOk_any _ f _ _ o.out).mono ?_; rintro e g ⟨rfl, d⟩; rw [d, j]; clear d g)
    go_ret
    exact ⟨ret_bool (by first | rfl | exact p.symm | simp [p]), rfl⟩
   ·go_wp2_with (go_at_call 144; refine (specLineOk_any _ f _ _ o.out).mono ?_; rintro e g ⟨rfl, d⟩; rw [d, j]; clear d g)
    go_round
    case rel =>
     refine ⟨k + 1, by omega, by go_num, fun i ys hi hy => ?_⟩;by_cases e : i = k
     ·subst e;rw [r.out] at hy;cases hy;exact j
     ·exact z.out i ys (by omega) hy
    case measure => simp [intOf]; omega
  ·have n : k = xss.length := by omega
   subst n;have A : Hid (betw (xss.length : Int) 1 16 = memOk xss) := by
    unfold Hid;cases s : betw (xss.length : Int) 1 16
    ·unfold memOk; rw [s]; rfl
    ·exact (memOk_all s c).symm
   clear c;go_wp2_with (go_at_call 98; refine (l1In_any _ _ _ _).mono ?_; rintro e g ⟨rfl, rfl⟩)
   go_ret
   exact ⟨ret_bool A.out, rfl⟩
set_option linter.unusedVariables false
def houseB (x : HouseD) : Bool := memOk x.1 && (decide (x.2.length = x.1.length) && x.2.all entB)
theorem house_len {x : HouseD} (h : houseM.bk x ≤ 1048576) : x.1.length ≤ 1048576 ∧ x.2.length ≤ 1048576 := by
 have e : houseM.bk x = (x.1.length + sumbk intsM x.1) + (x.2.length + sumbk entM x.2) := rfl;omega
theorem ent_at {w : World} {a : Option Addr} {xs : List EntryD} {k : Nat} {x : EntryD} (h : SlRd entR w a xs) (hx : xs[k]? = some x) :
    ∃ b d f i, a = some ⟨b, d, none⟩ ∧ w.cell? ⟨b, d + k * 8, none⟩ = some (.int .i64 x.1) ∧ w.cell? ⟨b, d + k * 8 + 1, none⟩ = some (.int .i64 x.2.1) ∧ w.cell? ⟨b, d + k * 8 + 2, none⟩ = some (.bool x.2.2.1) ∧ w.cell? ⟨b, d + k * 8 + 3, none⟩ = some (.int .i64 x.2.2.2.1) ∧ w.cell? ⟨b, d + k * 8 + 4, none⟩ = some (.int .i64 x.2.2.2.2.1) ∧ w.cell? ⟨b, d + k * 8 + 5, none⟩ = some (.int .i64 x.2.2.2.2.2.1) ∧ w.cell? ⟨b, d + k * 8 + 6, none⟩ = some (.int .i64 x.2.2.2.2.2.2.1) ∧ w.cell? ⟨b, d + k * 8 + 7, none⟩ = some (.slice f x.2.2.2.2.2.2.2.length i) ∧ SlRd intR w f x.2.2.2.2.2.2.2 := by
 obtain ⟨b, d, cs, rfl, g, c⟩ := slrd_at h hx;obtain ⟨f, i, rfl, -, -, -, -, -, -, -, -, j⟩ := ent_rd g;exact ⟨b, d, f, i, rfl, c 0 _ rfl, c 1 _ rfl, c 2 _ rfl, c 3 _ rfl, c 4 _ rfl, c 5 _ rfl, c 6 _ rfl, c 7 _ rfl, j⟩
theorem bookOk1_any (x : EntryD) (ad : Option Addr) (cp : Nat) (w : World) (h : SlRd intR w ad x.2.2.2.2.2.2.2) :
    Calls Tryz.prog 205 #[.agg #[.int .i64 x.1, .int .i64 x.2.1, .bool x.2.2.1, .int .i64 x.2.2.2.1, .int .i64 x.2.2.2.2.1, .int .i64 x.2.2.2.2.2.1, .int .i64 x.2.2.2.2.2.2.1, .slice ad x.2.2.2.2.2.2.2.length cp]] w fun e w' => e = .returned (.bool (!entB x)) ∧ Below w.heap.size w w' := by
 have B := box_below w (.cells #[.int .i64 x.1, .int .i64 x.2.1, .bool x.2.2.1, .int .i64 x.2.2.2.1, .int .i64 x.2.2.2.2.1, .int .i64 x.2.2.2.2.2.1, .int .i64 x.2.2.2.2.2.2.1, .slice ad x.2.2.2.2.2.2.2.length cp] 147);have a : Hid _ := fun (W : World) (hb : Below w.heap.size w W) => implEntryOk_any x.1 x.2.1 x.2.2.2.1 x.2.2.2.2.1 x.2.2.2.2.2.1 x.2.2.2.2.2.2.1 x.2.2.1 x.2.2.2.2.2.2.2 ad cp W (slrd_next h hb);generalize entB x = q at a ⊢;clear h;go_enter Tryz.func205, Tryz.ntmps205;go_wp2_with fail
 generalize w.alloc (.cells #[.int .i64 x.1, .int .i64 x.2.1, .bool x.2.2.1, .int .i64 x.2.2.2.1, .int .i64 x.2.2.2.2.1, .int .i64 x.2.2.2.2.2.1, .int .i64 x.2.2.2.2.2.2.1, .slice ad x.2.2.2.2.2.2.2.length cp] 147) = W0 at B ⊢;refine (a.out _ B).mono ?_;rintro e w1 ⟨rfl, b⟩;go_wp2;go_ret
 exact ⟨rfl, below_step B b⟩
theorem indexBadE_any (a : Option Addr) (xs : List EntryD) (cap : Nat) (w : World) (h : SlRd entR w a xs) (hm : xs.length ≤ maxLen) :
    Calls Tryz.prog 207 #[.slice a xs.length cap, .func (.func 205) #[] #[]] w fun e w' => e = .returned (.int .i64 (badP entB xs)) ∧ Below w.heap.size w w' := by
 have K : xs.length ≤ 9223372036854775807 := hm;have G : Hid (∀ W, Below w.heap.size w W → SlRd entR W a xs) := fun W f => slrd_keep h fun k E => f.block k E;clear h hm;go_enter Tryz.func207, Tryz.ntmps207;go_wp2;go_loopw [8] (fun i wr => ∃ k : Nat, k ≤ xs.length ∧ i = .int .i64 k ∧ (∀ j v, j < k → xs[j]? = some v → entB v = true) ∧ Below w.heap.size w wr) (fun i _ => xs.length - (intOf i).toNat)
 case atStart => exact ⟨0, Nat.zero_le _, rfl, fun j v hj => by omega, Below.refl _ _⟩
 case round =>
  obtain ⟨k, E, rfl, d, c⟩ := hrel;by_cases n : k < xs.length
  ·have r : (k : Int) < (xs.length : Int) := by omega
   obtain ⟨x, o⟩ : ∃ x, xs[k]? = some x := ⟨_, List.getElem?_eq_getElem n⟩;obtain ⟨b, M, J, H, rfl, s, q, F, C, y, D, A, B, p⟩ := ent_at (G.out _ c) o;have l := bookOk1_any x J H wr p;clear p;have z : Hid (xs[k]? = some x) := o;clear o;cases f : entB x
   ·have m : Hid (badP entB xs = k) := badP_at z.out f d;rw [f] at l;go_wp2_with fail
    refine l.mono ?_;rintro e L ⟨rfl, g⟩;replace c := below_step c g;clear g s q F C y D A B;go_wp2;go_ret
    exact ⟨ret_int m.out.symm, c⟩
   ·rw [f] at l;go_wp2_with fail
    refine l.mono ?_;rintro e L ⟨rfl, g⟩;replace c := below_step c g;clear g s q F C y D A B;go_wp2;go_roundw
    case rel =>
     refine ⟨k + 1, by omega, by go_num, fun j v hj hv => ?_, c⟩;by_cases I : j < k
     ·exact d j v I hv
     ·have : j = k := by omega
      subst this;rw [z.out] at hv;cases hv;exact f
    case measure => simp [intOf]; omega
  ·have m : Hid (badP entB xs = -1) := badP_no fun j v hv => d j v (by have := (List.getElem?_eq_some_iff.1 hv).1; omega) hv;go_wp2;go_ret
   exact ⟨ret_int m.out.symm, c⟩
theorem containsBadE_any (a : Option Addr) (xs : List EntryD) (cap : Nat) (w : World) (h : SlRd entR w a xs) (hm : xs.length ≤ maxLen) :
    Calls Tryz.prog 163 #[.slice a xs.length cap, .func (.func 205) #[] #[]] w fun e w' => e = .returned (.bool (!xs.all entB)) ∧ Below w.heap.size w w' := by
 have d := indexBadE_any a xs cap w h hm;have b := badP_all entB xs;clear h hm;generalize badP entB xs = q at d b;generalize xs.all entB = y at b ⊢;subst b;by_cases g : q < 0
 ·have c : ¬ (0 ≤ q) := by omega
  go_enter Tryz.func163, Tryz.ntmps163;go_wp2_with fail
  refine d.mono ?_;rintro e i ⟨rfl, f⟩;go_wp2;go_ret
  exact ⟨by simp [g], f⟩
 ·have c : 0 ≤ q := by omega
  go_enter Tryz.func163, Tryz.ntmps163;go_wp2_with fail
  refine d.mono ?_;rintro e i ⟨rfl, f⟩;go_wp2;go_ret
  exact ⟨by simp [g], f⟩
theorem implBookOk_any (a : Option Addr) (xs : List EntryD) (cap : Nat) (w : World) (h : SlRd entR w a xs) (hm : xs.length ≤ maxLen) :
    Calls Tryz.prog 162 #[.slice a xs.length cap] w fun e w' => e = .returned (.bool (xs.all entB)) ∧ Below w.heap.size w w' := by
 have b := containsBadE_any a xs cap w h hm;generalize xs.all entB = y at b ⊢;clear h hm;go_enter Tryz.func162, Tryz.ntmps162;go_wp2_with fail
 refine b.mono ?_;rintro e w1 ⟨rfl, c⟩;go_wp2;go_ret
 exact ⟨by simp, c⟩
theorem implHouseOk_u (cs : List Value) (x : HouseD) (w : World) (h : houseR.rd w cs x) :
    Calls Tryz.prog 120 #[aggV cs] w fun e w' => e = .returned (.bool (houseB x)) ∧ Below w.heap.size w w' := by
 obtain ⟨v0, v1, rfl, ⟨b, c, v, g, i, s⟩, ⟨f, d, z, k, l, A⟩⟩ := house_rd h;simp only [List.cons.injEq, and_true] at v z;obtain rfl := v;obtain rfl := z;clear h;change Calls Tryz.prog 120 #[.agg #[.slice b x.1.length c, .slice f x.2.length d]] w _
 have o : Hid _ := fun (W : World) (hb : Below w.heap.size w W) => implMemoryOk_any b x.1 c W (readsM_of (slrd_next s hb)) (Nat.le_trans g i);have y : Hid _ := fun (W : World) (hb : Below w.heap.size w W) => implBookOk_any f x.2 d W (slrd_next A hb) (Nat.le_trans k l);have F : x.1.length ≤ 9223372036854775807 := Nat.le_trans g i;have D : x.2.length ≤ 9223372036854775807 := Nat.le_trans k l;clear s A g i k l;have X := heap_at w (.cells #[.slice b x.1.length c, .slice f x.2.length d] 42);have B := box_below w (.cells #[.slice b x.1.length c, .slice f x.2.length d] 42);unfold houseB;generalize memOk x.1 = q at o ⊢;generalize x.2.all entB = r at y ⊢;generalize x.1.length = n at *;generalize x.2.length = m at *;go_enter Tryz.func120, Tryz.ntmps120;go_wp2_with fail
 generalize w.alloc (.cells #[.slice b n c, .slice f m d] 42) = W0 at X B ⊢;refine (o.out _ B).mono ?_;rintro e w1 ⟨rfl, a⟩;replace X := row_keep a X;replace B := below_step B a;clear a;obtain ⟨E, C⟩ := cells_house X;cases q
 ·clear X;go_wp2;go_ret
  exact ⟨rfl, B⟩
 ·by_cases p : m = n
  ·subst p;have j : ((m : Int) == (m : Int)) = true := by simp
   go_wp2_with fail
   refine (y.out _ B).mono ?_;rintro e w2 ⟨rfl, a⟩;replace B := below_step B a;clear a X E C;go_wp2;go_ret
   exact ⟨by simp, B⟩
  ·have j : ((m : Int) == (n : Int)) = false := by simp; omega
   clear X;go_wp2;go_ret
   exact ⟨by simp [p], B⟩
theorem specHouseOk_u (cs : List Value) (x : HouseD) (w : World) (h : houseR.rd w cs x) (O : houseM.bk x ≤ 1048576) :
    Calls Tryz.prog 90 #[aggV cs] w fun e w' => e = .returned (.bool (houseB x)) ∧ Below w.heap.size w w' := by
 obtain ⟨v0, v1, rfl, ⟨d, g, e0, l1, l2, q0⟩, ⟨l, z, H, m1, m2, q1⟩⟩ := house_rd h;simp only [List.cons.injEq, and_true] at e0 H;obtain rfl := e0;obtain rfl := H;clear h;obtain ⟨S, vA⟩ := house_len O;change Calls Tryz.prog 90 #[.agg #[.slice d x.1.length g, .slice l x.2.length z]] w _
 have p : Hid _ := fun (W : World) (f : Below w.heap.size w W) => (specMemoryOk_any d x.1 g W (readsM_of (slrd_next q0 f)) (by omega)).mono fun e w' ⟨q, r⟩ => ⟨q, be_eq r⟩;have HE : Hid (∀ W, Below w.heap.size w W → SlRd entR W l x.2) := fun W f => slrd_next q1 f;clear q0 q1 l1 l2 m1 m2 O;have X := heap_at w (.cells #[.slice d x.1.length g, .slice l x.2.length z] 42);have B := box_below w (.cells #[.slice d x.1.length g, .slice l x.2.length z] 42);have L : Hid (memOk x.1 = false → houseB x = false) := fun e => by unfold houseB; rw [e]; rfl
 have R : Hid (¬ x.2.length = x.1.length → houseB x = false) := fun e => by unfold houseB; simp [e]
 have HB : Hid (∀ j u, x.2[j]? = some u → entB u = false → houseB x = false) := fun j u hu e => by
  have : x.2.all entB = false := by
   cases hh : x.2.all entB
   ·rfl
   ·rw [List.all_eq_true] at hh;rw [hh u (List.mem_of_getElem? hu)] at e;cases e
  unfold houseB;simp [this]
 have M : Hid (memOk x.1 = true → x.2.length = x.1.length → (∀ j u, x.2[j]? = some u → entB u = true) → houseB x = true) := fun H e2 e3 => by
  have : x.2.all entB = true := List.all_eq_true.2 fun u hu => by
   obtain ⟨j, N⟩ := List.getElem?_of_mem hu;exact e3 j u N
  unfold houseB;simp [H, e2, this]
 cases a : memOk x.1
 ·rw [L.out a];rw [a] at p;generalize x.1.length = n at *;generalize x.2.length = m at *;go_enter Tryz.func90, Tryz.ntmps90;go_wp2_with fail
  generalize w.alloc (.cells #[.slice d n g, .slice l m z] 42) = W0 at X B ⊢;refine (p.out _ B).mono ?_;rintro e w1 ⟨rfl, c⟩;replace B := below_step B c;clear c X;go_wp2;go_ret
  exact ⟨rfl, B⟩
 by_cases s : x.2.length = x.1.length
 ·rw [a] at p;have K : Hid ((∀ j u, x.2[j]? = some u → entB u = true) → houseB x = true) := M.out a s;rw [← s] at p X B ⊢;clear M L R a S s;go_enter Tryz.func90, Tryz.ntmps90;go_wp2_with fail
  generalize w.alloc (.cells #[.slice d x.2.length g, .slice l x.2.length z] 42) = W0 at X B ⊢;refine (p.out _ B).mono ?_;rintro e w1 ⟨rfl, c⟩;replace X := row_keep c X;replace B := below_step B c;clear c;obtain ⟨D, C⟩ := cells_house X;go_wp2;clear D C;go_loopw [3] (fun i wr => ∃ k : Nat, k ≤ x.2.length ∧ i = .int .i64 k ∧ (∀ j v, j < k → x.2[j]? = some v → entB v = true) ∧ Below w.heap.size w wr ∧ wr.heap[w.heap.size]? = some (.cells #[.slice d x.2.length g, .slice l x.2.length z] 42 (0, 0))) (fun i _ => x.2.length - (intOf i).toNat)
  case atStart => exact ⟨0, Nat.zero_le _, rfl, fun j v N => by omega, B, X⟩
  case round =>
   obtain ⟨k, O, rfl, E, o, G⟩ := hrel;obtain ⟨D, C⟩ := cells_house G;by_cases J : k < x.2.length
   ·have Z : (k : Int) < (x.2.length : Int) := by omega
    obtain ⟨y, I⟩ : ∃ y, x.2[k]? = some y := ⟨_, List.getElem?_eq_getElem J⟩;obtain ⟨b, DA, ad, cp, rfl, z0, T, z2, z3, z4, U, Y, z7, V⟩ := ent_at (HE.out _ o) I;have F := specEntryOk_any y.1 y.2.1 y.2.2.2.1 y.2.2.2.2.1 y.2.2.2.2.2.1 y.2.2.2.2.2.2.1 y.2.2.1 y.2.2.2.2.2.2.2 ad cp wr V;rw [show entB (y.1, y.2.1, y.2.2.1, y.2.2.2.1, y.2.2.2.2.1, y.2.2.2.2.2.1, y.2.2.2.2.2.2.1, y.2.2.2.2.2.2.2) = entB y from rfl] at F;have HX : Hid (x.2[k]? = some y) := I;clear I V;cases f : entB y
    ·rw [f] at F;go_wp2_with fail
     refine F.mono ?_;rintro e w2 ⟨rfl, A⟩;replace o := below_step o A;clear A z0 T z2 z3 z4 U Y z7 D C G X B;go_wp2;go_ret
     exact ⟨ret_bool (HB.out k y HX.out f).symm, o⟩
    ·rw [f] at F;go_wp2_with fail
     refine F.mono ?_;rintro e w2 ⟨rfl, A⟩;replace o := below_step o A;replace G := row_keep A G;clear A z0 T z2 z3 z4 U Y z7 D C X B;go_wp2;go_roundw
     case rel =>
      refine ⟨k + 1, by omega, by go_num, fun j v N hv => ?_, o, G⟩;by_cases s : j < k
      ·exact E j v s hv
      ·have : j = k := by omega
       subst this;rw [HX.out] at hv;cases hv;exact f
     case measure => simp [intOf]; omega
   ·have HR : Hid (houseB x = true) := K.out fun j v hv => E j v (by have := (List.getElem?_eq_some_iff.1 hv).1; omega) hv;go_wp2;go_ret
    exact ⟨ret_bool HR.out.symm, o⟩
 ·rw [R.out s];rw [a] at p;have sA : ¬ ((x.2.length : Int) = (x.1.length : Int)) := by omega
  have yA : ((x.2.length : Int) != (x.1.length : Int)) = true := by simp; omega
  clear M L R HB HE a s;generalize x.1.length = n at *;generalize x.2.length = m at *;go_enter Tryz.func90, Tryz.ntmps90;go_wp2_with fail
  generalize w.alloc (.cells #[.slice d n g, .slice l m z] 42) = W0 at X B ⊢;refine (p.out _ B).mono ?_;rintro e w1 ⟨rfl, c⟩;replace X := row_keep c X;replace B := below_step B c;clear c;obtain ⟨D, C⟩ := cells_house X;clear X;go_wp2;go_ret
  exact ⟨rfl, B⟩
end Go.Proofs.YtcocbafhcpdheaaGreatDoor
