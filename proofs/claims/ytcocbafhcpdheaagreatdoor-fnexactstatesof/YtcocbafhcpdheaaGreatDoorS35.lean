import Derived.Test.YtcocbafhcpdheaaGreatDoorS00Box
import Derived.Test.YtcocbafhcpdheaaGreatDoorS33
import Derived.Test.YtcocbafhcpdheaaGreatDoorS34
import Derived.Laws.IdiomCopy
import Derived.Laws.Slices
namespace Go.Proofs.YtcocbafhcpdheaaGreatDoor
set_option maxHeartbeats 4000000
open Go.ChangeShapes Go.WideShapes Go.ChangeAt Go.RowKit
set_option linter.unusedVariables false
theorem who_bd {o s : Int} (h : whoB o s = true) : -1 ≤ o ∧ o ≤ 3 ∧ 0 ≤ s ∧ s ≤ 15 := by
 simp [whoB, betw] at h
 omega
theorem who_of {o s : Int} {b : Bool} {k f l m : Int} {d : List Int} (h : entB (o, s, b, k, f, l, m, d) = true) : whoB o s = true := by rw [eb] at h; exact (Bool.and_eq_true _ _ ▸ h).1
theorem implHolders_any (o s k f l m : Int) (b : Bool) (d : List Int) (a : Option Addr) (cap : Nat) (w : World) (h : SlRd intR w a d) :
    Calls Tryz.prog 167 #[.agg #[.int .i64 o, .int .i64 s, .bool b, .int .i64 k, .int .i64 f, .int .i64 l, .int .i64 m, .slice a d.length cap]] w fun e w' => ∃ v, e = .returned v ∧ Made w w' v (if entB (o, s, b, k, f, l, m, d) then hoI o s else []) := by
 have X := heap_at w (.cells #[.int .i64 o, .int .i64 s, .bool b, .int .i64 k, .int .i64 f, .int .i64 l, .int .i64 m, .slice a d.length cap] 147);have B := box_below w (.cells #[.int .i64 o, .int .i64 s, .bool b, .int .i64 k, .int .i64 f, .int .i64 l, .int .i64 m, .slice a d.length cap] 147);have c : Hid _ := fun (W : World) (hb : Below w.heap.size w W) => implEntryOk_any o s k f l m b d a cap W (slrd_next h hb);clear h;cases n : entB (o, s, b, k, f, l, m, d)
 ·rw [n] at c;go_enter Tryz.func167, Tryz.ntmps167;go_wp2_with fail
  generalize w.alloc (.cells #[.int .i64 o, .int .i64 s, .bool b, .int .i64 k, .int .i64 f, .int .i64 l, .int .i64 m, .slice a d.length cap] 147) = W0 at X B ⊢;refine (c.out _ B).mono ?_;rintro e i ⟨rfl, g⟩;have M : Hid (Made w (i.alloc (.cells #[] 2)) (.slice (some ⟨i.heap.size, 0, none⟩) 0 0) []) := made_step (below_step B g) (made_lit i #[] [] rfl (by unfold maxLen; simp));clear g c X B;go_wp2;go_ret
  exact ⟨_, rfl, M.out⟩
 ·rw [n] at c;have H : Hid (holL o s 8 = hoI o s) := holL_eq (who_of n);go_enter Tryz.func167, Tryz.ntmps167;go_wp2_with fail
  generalize w.alloc (.cells #[.int .i64 o, .int .i64 s, .bool b, .int .i64 k, .int .i64 f, .int .i64 l, .int .i64 m, .slice a d.length cap] 147) = W0 at X B ⊢;refine (c.out _ B).mono ?_;rintro e i ⟨rfl, g⟩;replace X := row_keep g X;replace B := below_step B g;obtain ⟨q, C, F, z, A, r, G, y⟩ := cells_8 X;clear g c X;go_wp2_with fail
  refine (page_any o s k f l m b _ _).mono ?_;rintro e w2 ⟨rfl, p⟩;replace B := below_step B p;clear p q C F z A r G y;go_wp2_with (go_at_call 209; refine (chosenP_any o s _).mono ?_; rintro e E ⟨v, rfl, j⟩; rw [H.out] at j; have D : Hid (Made w E v (hoI o s)) := made_step B j; clear j)
  go_ret
  exact ⟨_, rfl, D.out⟩
theorem mems_in {s : Int} : ∀ {k : Nat} {x : Int}, x ∈ mems s k → 0 ≤ x ∧ x < k
 | 0, x, h => by simp [mems] at h
 | k + 1, x, h => by
  unfold mems at h;split at h
  ·rcases List.mem_append.1 h with h | h
   ·have := mems_in h; omega
   ·simp at h; omega
  ·have := mems_in h; omega
theorem ho_small {o s : Int} (h : whoB o s = true) : (hoI o s).length ≤ 8 ∧ ∀ x ∈ hoI o s, 0 ≤ x ∧ x < 8 := by
 have hb := who_bd h;unfold hoI;split
 ·exact ⟨by simp, fun x hx => by simp at hx; omega⟩
 ·exact ⟨mems_le s 8, fun x hx => mems_in hx⟩
theorem hold_small (u : EntryD) : (if entB u then hoI u.1 u.2.1 else []).length ≤ 8 ∧ Hid (∀ x ∈ (if entB u then hoI u.1 u.2.1 else []), In64 x) := by
 cases b : entB u
 ·exact ⟨by simp, fun x hx => by simp at hx⟩
 ·have d : whoB u.1 u.2.1 = true := by unfold entB at b; exact (Bool.and_eq_true _ _ ▸ b).1
  obtain ⟨c, a⟩ := ho_small d;exact ⟨c, fun x hx => ⟨by have := a x hx; omega, by have := a x hx; omega⟩⟩
theorem made_zeroM (n : Nat) : (madeCells #[.int .i64 0] n).toList = (List.replicate n (0 : Int)).map (Value.int .i64) := by
 apply List.ext_getElem?
 intro i;simp only [madeCells, Array.toList_map, Array.toList_range, List.getElem?_map, List.getElem?_replicate];by_cases h : i < n
 ·simp [h, Nat.mod_one]
 ·simp [h]
theorem owni_cap {B g cap : Nat} {w : World} {zs : List Int} (h : OwnI B w g cap zs) : zs.length ≤ cap ∧ cap ≤ maxLen := by
 rcases h.2 with ⟨a, _⟩ | ⟨g', b, d, a, f, j, c, i, rest⟩
 ·simp at a
 ·simp only [Value.slice.injEq, Option.some.injEq, Addr.mk.injEq, and_true, true_and] at a;obtain ⟨rfl, rfl⟩ := a;exact ⟨c, i⟩
theorem newRow_any (n : Nat) (w : World) (hn : n ≤ 16) : Calls Tryz.prog 239 #[.int .i64 n] w fun e w' => ∃ v, e = .returned v ∧ Made w w' v (List.replicate (n * 2) 0) := by
 have a := Go.run_make_row' (P := Tryz.prog) 225 2 (.int .i64 0) 8 Tryz.underlying225 Tryz.infoI rfl .i64 .i64 (n * 2) (by omega) (by omega);have c : ((n * 2 : Nat) : Int) = (n : Int) * 2 := by omega
 simp only [c] at a;have M := made_lit w (madeCells #[.int .i64 0] (n * 2)) (List.replicate (n * 2) 0) (made_zeroM _) (by unfold maxLen; simp; omega);rw [List.length_replicate] at M;have b : Hid _ := M;clear M;go_enter Tryz.func239, Tryz.ntmps239;go_wp2;go_ret
 exact ⟨_, rfl, b.out⟩
theorem cut_any (g n cap j : Nat) (w : World) (hj : j ≤ 16) (h : j * 2 + 2 ≤ cap) : Calls Tryz.prog 240 #[.slice (some ⟨g, 0, none⟩) n cap, .int .i64 j] w fun e w' => e = .returned (.slice (some ⟨g, j * 2, none⟩) 2 2) ∧ w' = w := by
 go_enter Tryz.func240, Tryz.ntmps240;go_wp2;go_ret
 refine ⟨?_, rfl⟩;have a : j * 2 + 2 - j * 2 = 2 := by omega
 rw [a];rfl
def pr (zs : List Int) (j : Nat) : List Int := [zs.getD (j * 2) 0, zs.getD (j * 2 + 1) 0]
def prs (zs : List Int) (n : Nat) : List (List Int) := (List.range n).map (pr zs)
theorem Tryz.sizeI : (Tryz.prog.info? 2).map (·.size) = some 1 := by kernel_rfl
theorem copied_two {B g cap : Nat} {w : World} {zs : List Int} (h : OwnI B w g cap zs) (o : Nat) (x y : Int) :
    OwnI B (w.setCells g o [.int .i64 x, .int .i64 y]) g cap ((zs.set o x).set (o + 1) y) ∧ w.grownBy (w.setCells g o [.int .i64 x, .int .i64 y]) (some g) := by
 have a := World.ownsRow.stored h o (.int .i64 x);have b := World.ownsRow.stored a.1 (o + 1) (.int .i64 y);refine ⟨?_, grown_trans a.2 b.2⟩;unfold OwnI;rw [List.length_set, List.length_set, List.map_set, List.map_set];exact b.1
theorem owni_at {B g cap : Nat} {w : World} {zs : List Int} (h : OwnI B w g cap zs) (i : Nat) (hi : i < zs.length) : w.cell? ⟨g, i, none⟩ = some (.int .i64 (zs.getD i 0)) := by
 rw [World.ownsRow.cellAt h i (by omega)];simp [List.getD_eq_getElem?_getD, hi]
theorem run_copy_two (w : World) (ty : TypeId) (b o : Nat) (B cap : Nat) (zs : List Int) (a : Addr) (dc sc : Nat) (x y : Int) (h : OwnI B w b cap zs) (ho : o + 2 ≤ zs.length)
    (h0 : w.cell? a = some (.int .i64 x)) (h1 : w.cell? (a.add 1) = some (.int .i64 y)) :
    (Builtin.copy_ #[37, 37] ty #[.slice (some ⟨b, o, none⟩) 2 dc, .slice (some a) 2 sc]).run Tryz.prog w = .ok (.int .i64 2) (w.setCells b o [.int .i64 x, .int .i64 y]) := by
 refine run_copy_cells (P := Tryz.prog) w 37 37 ty 2 b o 2 dc a 2 sc [.int .i64 x, .int .i64 y] Tryz.underlying37 Tryz.sizeI rfl ?_ ?_ ?_ ?_
 ·intro j v c;match j, c with
  | 0, c => simp at c; subst c; rw [show a.add 0 = a from by simp [Addr.add]]; exact h0
  | 1, c => simp at c; subst c; exact h1
 ·intro j c;rw [owni_at h (o + j) (by simp at c; omega)];rfl
 ·intro j _;exact World.ownsRow.frozenAt h (o + j)
 ·intro v d;simp at d
  rcases d with rfl | rfl <;> rfl
theorem prs_len (zs : List Int) (n : Nat) : (prs zs n).length = n := by simp [prs]
theorem pr_set (zs : List Int) (k i : Nat) (x y : Int) (h : k * 2 + 1 < zs.length) : pr ((zs.set (k * 2) x).set (k * 2 + 1) y) i = if i = k then [x, y] else pr zs i := by
 unfold pr;by_cases e : i = k
 ·subst e;simp [List.getD_eq_getElem?_getD, show i * 2 < zs.length by omega, h]
 ·rw [if_neg e];have a : ¬ k * 2 = i * 2 := by omega
  have d : ¬ k * 2 + 1 = i * 2 := by omega
  have b : ¬ k * 2 = i * 2 + 1 := by omega
  have c : ¬ k * 2 + 1 = i * 2 + 1 := by omega
  rw [List.getD_eq_getElem?_getD, List.getD_eq_getElem?_getD, List.getElem?_set_ne d, List.getElem?_set_ne a, List.getElem?_set_ne c, List.getElem?_set_ne b, ← List.getD_eq_getElem?_getD, ← List.getD_eq_getElem?_getD]
theorem prs_get {zs : List Int} {n i : Nat} (h : i < n) : (prs zs n)[i]? = some (pr zs i) := by simp [prs, h]
def memOk (xss : List (List Int)) : Bool := betw xss.length 1 16 && xss.all isL
theorem memOk_not {xss : List (List Int)} {k : Nat} {xs : List Int} (hx : xss[k]? = some xs) (hn : isL xs = false) : memOk xss = false := by
 unfold memOk;rw [Bool.and_eq_false_iff];right
 rw [List.all_eq_false];exact ⟨xs, List.mem_of_getElem? hx, by simp [hn]⟩
theorem memOk_all {xss : List (List Int)} (hl : betw xss.length 1 16 = true) (h : ∀ (i : Nat) a, i < xss.length → xss[i]? = some a → isL a = true) : memOk xss = true := by
 unfold memOk;rw [hl, Bool.true_and, List.all_eq_true];intro a c;obtain ⟨i, b, rfl⟩ := List.mem_iff_getElem.1 c;exact h i _ b (List.getElem?_eq_getElem b)
theorem prs_all {xss : List (List Int)} {zs : List Int} (h : ∀ (i : Nat) a, i < xss.length → xss[i]? = some a → pr zs i = a) : prs zs xss.length = xss := by
 apply List.ext_getElem?
 intro i;by_cases b : i < xss.length
 ·obtain ⟨a, c⟩ := get_of_lt b;rw [prs_get b, c, h i a b c]
 ·rw [List.getElem?_eq_none (by rw [prs_len]; omega), List.getElem?_eq_none (by omega)]
theorem rowOf_any (a : Option Addr) (xss : List (List Int)) (cap : Nat) (w : World) (h : ReadsM w a xss) (hm : xss.length ≤ 9223372036854775807) :
    Calls Tryz.prog 204 #[.slice a xss.length cap] w fun e o => ∃ v, e = .returned (.tuple #[v, .bool (memOk xss)]) ∧ Below w.heap.size w o ∧
     (memOk xss = true → ∃ f, f.length = xss.length * 2 ∧ prs f xss.length = xss ∧ Made w o v f) := by
 cases R : betw xss.length 1 16
 ·have B : memOk xss = false := by unfold memOk; rw [R]; rfl
  rw [B];go_enter Tryz.func204, Tryz.ntmps204;go_wp2_with (go_at_call 160; refine (linesOk_any _ _).mono ?_; rintro e o ⟨rfl, rfl⟩)
  go_ret2
  exact ⟨_, rfl, (Below.refl _ _).alloc (Nat.le_refl _) _, fun h => by cases h⟩
 ·have M : 1 ≤ xss.length ∧ xss.length ≤ 16 := by simp [betw] at R; omega
  go_enter Tryz.func204, Tryz.ntmps204;go_wp2_with (go_at_call 160; refine (linesOk_any _ _).mono ?_; rintro e o ⟨rfl, m⟩; rw [m]; clear m o)
  refine (newRow_any _ _ M.2).mono ?_;rintro e w1 ⟨v, rfl, g, c, rfl, Z, K, o1, b1⟩;go_wp2_with fail
  go_loopw [18] (fun i wr => ∃ k : Nat, k ≤ xss.length ∧ i = .int .i64 k ∧ ∃ f : List Int, f.length = xss.length * 2 ∧ (∀ (i : Nat) d, i < k → xss[i]? = some d → pr f i = d ∧ isL d = true) ∧ OwnI w.heap.size wr g c f ∧ Below w.heap.size w wr)
   (fun i _ => xss.length - (intOf i).toNat)
  case atStart => exact ⟨0, Nat.zero_le _, rfl, _, by simp, fun i d z => absurd z (Nat.not_lt_zero _), o1, b1⟩
  case round =>
   obtain ⟨k, hk, rfl, f, F, l, s, r⟩ := hrel;clear o1 b1 K;by_cases J : k < xss.length
   ·have cA : (k : Int) < (xss.length : Int) := by omega
    obtain ⟨d, n⟩ := get_of_lt J;obtain ⟨b, fA, aj, cj, rfl, g1, hr⟩ := readsM_at (readsM_below h r) n;have H : Hid (Reads wr aj d) := hr;have L : Hid (xss[k]? = some d) := n;have X : Hid _ := l;have p : Hid (f.length = xss.length * 2) := F;clear h hr n l F;go_wp2_with fail
    refine (implLineOk_any _ d _ _ H.out).mono ?_;rintro e U ⟨rfl, C⟩;have E := below_step r C;rcases isL_cases d with T | ⟨x, y, rfl, n, hy⟩
    ·rw [T];have B := memOk_not L.out T;clear L X H s r C;go_wp2;rw [B];go_ret2
     exact ⟨_, rfl, E.alloc E.size _, fun h => by cases h⟩
    ·have D := isL_yes n hy;rw [D];have G := owni_below s C (owni_lt s).2;have S := reads_below H.out C;obtain ⟨b', A, rfl, V, Y⟩ := reads_two S;have CP := run_copy_two U 3 g (k * 2) w.heap.size c f ⟨b', A, none⟩ 2 cj x y G (by have := p.out; omega) V (by simpa [Addr.add] using Y);have I : Hid _ := copied_two G (k * 2) x y;have O : k * 2 + 2 ≤ c := by have := (owni_cap G).1; have := p.out; omega
     clear H s r C S V Y G;generalize hW : U.setCells g (k * 2) [.int .i64 x, .int .i64 y] = W at CP I;clear hW;go_wp2_with (go_at_call 240; refine (cut_any _ _ _ _ _ (by omega) O).mono ?_; rintro e o ⟨rfl, m⟩; rw [m]; clear m o)
     go_roundw
     case rel =>
      refine ⟨k + 1, by omega, by go_num, (f.set (k * 2) x).set (k * 2 + 1) y, by have := p.out; simpa using this, ?_, I.out.1, E.grown I.out.2 E.size (by intro j hj; cases hj; exact Z)⟩;intro i d z q;rw [pr_set f k i x y (by have := p.out; omega)];by_cases e : i = k
      ·subst e;rw [L.out] at q;cases q;exact ⟨if_pos rfl, D⟩
      ·rw [if_neg e];exact X.out i d (by omega) q
     case measure => simp [intOf]; omega
   ·have N : k = xss.length := by omega
    subst N;have B := memOk_all R (fun i d z n => (l i d z n).2);have HP : Hid _ := prs_all (fun i d z n => (l i d z n).1);have p : Hid (f.length = xss.length * 2) := F;clear F;go_wp2;rw [B];go_ret2
    exact ⟨_, rfl, r, fun _ => ⟨f, p.out, HP.out, g, c, by rw [p.out]; rfl, Z, (owni_lt s).2, s, r⟩⟩
theorem implMemoryOk_any (a : Option Addr) (xss : List (List Int)) (cap : Nat) (w : World) (h : ReadsM w a xss) (hm : xss.length ≤ 9223372036854775807) :
    Calls Tryz.prog 161 #[.slice a xss.length cap] w fun e w' => e = .returned (.bool (memOk xss)) ∧ Below w.heap.size w w' := by
 go_enter Tryz.func161, Tryz.ntmps161;go_wp2_with fail
 refine (rowOf_any _ xss _ _ h hm).mono ?_;rintro e w1 ⟨v, rfl, b, _⟩;go_wp2;go_ret
 exact ⟨rfl, b⟩
theorem specMemoryOk_any (a : Option Addr) (xss : List (List Int)) (cap : Nat) (w : World) (h : ReadsM w a xss) (hm : xss.length ≤ 2305843009213693952) :
    Calls Tryz.prog 141 #[.slice a xss.length cap] w fun e g => e = .returned (.bool (memOk xss)) ∧ g = w := by
 go_enter Tryz.func141, Tryz.ntmps141;go_wp2;go_loop [3] (fun i => ∃ k : Nat, k ≤ xss.length ∧ i = .int .i64 k ∧ ∀ (i : Nat) f, i < k → xss[i]? = some f → isL f = true) (fun i => xss.length - (intOf i).toNat)
 case atStart => exact ⟨0, Nat.zero_le _, rfl, fun i f hi => absurd hi (Nat.not_lt_zero _)⟩
 case round =>
  obtain ⟨k, hk, rfl, c⟩ := hrel;by_cases l : k < xss.length
  ·have r : (k : Int) < (xss.length : Int) := by omega
   obtain ⟨f, m⟩ := get_of_lt l;obtain ⟨b, y, B, cj, rfl, g1, p⟩ := readsM_at h m;have s : Hid (Reads w B f) := p;have q : Hid (xss[k]? = some f) := m;have A : Hid _ := c;clear h p m c;cases j : isL f
   ·have o := memOk_not q.out j;go_wp2_with (go_at_call 144; refine (specLineOk_any _ f _ _ s.out).mono ?_; rintro e g ⟨rfl, d⟩; rw [d, j]; clear d g)
    go_ret
    exact ⟨ret_bool (by first | rfl | exact o.symm | simp [o]), rfl⟩
   ·go_wp2_with (go_at_call 144; refine (specLineOk_any _ f _ _ s.out).mono ?_; rintro e g ⟨rfl, d⟩; rw [d, j]; clear d g)
    go_round
    case rel =>
     refine ⟨k + 1, by omega, by go_num, fun i ys hi hy => ?_⟩;by_cases e : i = k
     ·subst e;rw [q.out] at hy;cases hy;exact j
     ·exact A.out i ys (by omega) hy
    case measure => simp [intOf]; omega
  ·have n : k = xss.length := by omega
   subst n;have z : Hid (betw (xss.length : Int) 1 16 = memOk xss) := by
    unfold Hid;cases v : betw (xss.length : Int) 1 16
    ·unfold memOk; rw [v]; rfl
    ·exact (memOk_all v c).symm
   clear c;go_wp2_with (go_at_call 98; refine (l1In_any _ _ _ _).mono ?_; rintro e g ⟨rfl, rfl⟩)
   go_ret
   exact ⟨ret_bool z.out, rfl⟩
def houseB (x : HouseD) : Bool := memOk x.1 && (decide (x.2.length = x.1.length) && x.2.all entB)
theorem house_len {x : HouseD} (h : houseM.bk x ≤ 1048576) : x.1.length ≤ 1048576 ∧ x.2.length ≤ 1048576 := by
 have e : houseM.bk x = (x.1.length + sumbk intsM x.1) + (x.2.length + sumbk entM x.2) := rfl;omega
theorem ent_at {w : World} {a : Option Addr} {xs : List EntryD} {k : Nat} {x : EntryD} (h : SlRd entR w a xs) (hx : xs[k]? = some x) :
    ∃ b off ad cp, a = some ⟨b, off, none⟩ ∧ w.cell? ⟨b, off + k * 8, none⟩ = some (.int .i64 x.1) ∧ w.cell? ⟨b, off + k * 8 + 1, none⟩ = some (.int .i64 x.2.1) ∧ w.cell? ⟨b, off + k * 8 + 2, none⟩ = some (.bool x.2.2.1) ∧ w.cell? ⟨b, off + k * 8 + 3, none⟩ = some (.int .i64 x.2.2.2.1) ∧ w.cell? ⟨b, off + k * 8 + 4, none⟩ = some (.int .i64 x.2.2.2.2.1) ∧ w.cell? ⟨b, off + k * 8 + 5, none⟩ = some (.int .i64 x.2.2.2.2.2.1) ∧ w.cell? ⟨b, off + k * 8 + 6, none⟩ = some (.int .i64 x.2.2.2.2.2.2.1) ∧ w.cell? ⟨b, off + k * 8 + 7, none⟩ = some (.slice ad x.2.2.2.2.2.2.2.length cp) ∧ SlRd intR w ad x.2.2.2.2.2.2.2 := by
 obtain ⟨b, off, cs, rfl, hrd, hcell⟩ := slrd_at h hx;obtain ⟨ad, cp, rfl, -, -, -, -, -, -, -, -, hd⟩ := ent_rd hrd;exact ⟨b, off, ad, cp, rfl, hcell 0 _ rfl, hcell 1 _ rfl, hcell 2 _ rfl, hcell 3 _ rfl, hcell 4 _ rfl, hcell 5 _ rfl, hcell 6 _ rfl, hcell 7 _ rfl, hd⟩
theorem bookOk1_any (x : EntryD) (ad : Option Addr) (cp : Nat) (w : World) (h : SlRd intR w ad x.2.2.2.2.2.2.2) :
    Calls Tryz.prog 205 #[.agg #[.int .i64 x.1, .int .i64 x.2.1, .bool x.2.2.1, .int .i64 x.2.2.2.1, .int .i64 x.2.2.2.2.1, .int .i64 x.2.2.2.2.2.1, .int .i64 x.2.2.2.2.2.2.1, .slice ad x.2.2.2.2.2.2.2.length cp]] w fun e w' => e = .returned (.bool (!entB x)) ∧ Below w.heap.size w w' := by
 have B := box_below w (.cells #[.int .i64 x.1, .int .i64 x.2.1, .bool x.2.2.1, .int .i64 x.2.2.2.1, .int .i64 x.2.2.2.2.1, .int .i64 x.2.2.2.2.2.1, .int .i64 x.2.2.2.2.2.2.1, .slice ad x.2.2.2.2.2.2.2.length cp] 147);have HM : Hid (∀ W, Below w.heap.size w W → Calls Tryz.prog 206 #[.agg #[.int .i64 x.1, .int .i64 x.2.1, .bool x.2.2.1, .int .i64 x.2.2.2.1, .int .i64 x.2.2.2.2.1, .int .i64 x.2.2.2.2.2.1, .int .i64 x.2.2.2.2.2.2.1, .slice ad x.2.2.2.2.2.2.2.length cp]] W fun e w' => e = .returned (.bool (entB x)) ∧ Below W.heap.size W w') := fun W hb => implEntryOk_any x.1 x.2.1 x.2.2.2.1 x.2.2.2.2.1 x.2.2.2.2.2.1 x.2.2.2.2.2.2.1 x.2.2.1 x.2.2.2.2.2.2.2 ad cp W (slrd_next h hb);generalize entB x = q at HM ⊢;clear h;go_enter Tryz.func205, Tryz.ntmps205;go_wp2_with fail
 generalize w.alloc (.cells #[.int .i64 x.1, .int .i64 x.2.1, .bool x.2.2.1, .int .i64 x.2.2.2.1, .int .i64 x.2.2.2.2.1, .int .i64 x.2.2.2.2.2.1, .int .i64 x.2.2.2.2.2.2.1, .slice ad x.2.2.2.2.2.2.2.length cp] 147) = W0 at B ⊢;refine (HM.out _ B).mono ?_;rintro e w1 ⟨rfl, b1⟩;go_wp2;go_ret
 exact ⟨rfl, below_step B b1⟩
theorem indexBadE_any (a : Option Addr) (xs : List EntryD) (cap : Nat) (w : World) (h : SlRd entR w a xs) (hm : xs.length ≤ maxLen) :
    Calls Tryz.prog 207 #[.slice a xs.length cap, .func (.func 205) #[] #[]] w fun e w' => e = .returned (.int .i64 (badP entB xs)) ∧ Below w.heap.size w w' := by
 have hm' : xs.length ≤ 9223372036854775807 := hm;have H0 : Hid (∀ W, Below w.heap.size w W → SlRd entR W a xs) := fun W hb => slrd_keep h fun k hk => hb.block k hk;clear h hm;go_enter Tryz.func207, Tryz.ntmps207;go_wp2;go_loopw [8] (fun i wr => ∃ k : Nat, k ≤ xs.length ∧ i = .int .i64 k ∧ (∀ j v, j < k → xs[j]? = some v → entB v = true) ∧ Below w.heap.size w wr) (fun i _ => xs.length - (intOf i).toNat)
 case atStart => exact ⟨0, Nat.zero_le _, rfl, fun j v hj => by omega, Below.refl _ _⟩
 case round =>
  obtain ⟨k, hk, rfl, hno, BB⟩ := hrel;by_cases hlt : k < xs.length
  ·have hlt' : (k : Int) < (xs.length : Int) := by omega
   obtain ⟨x, hx⟩ : ∃ x, xs[k]? = some x := ⟨_, List.getElem?_eq_getElem hlt⟩;obtain ⟨b, off, ad, cp, rfl, x0, x1, x2, x3, x4, x5, x6, x7, hd⟩ := ent_at (H0.out _ BB) hx;have HC := bookOk1_any x ad cp wr hd;clear hd;have HX : Hid (xs[k]? = some x) := hx;clear hx;cases hb : entB x
   ·have HR : Hid (badP entB xs = k) := badP_at HX.out hb hno;rw [hb] at HC;go_wp2_with fail
    refine HC.mono ?_;rintro e w2 ⟨rfl, b2⟩;replace BB := below_step BB b2;clear b2 x0 x1 x2 x3 x4 x5 x6 x7;go_wp2;go_ret
    exact ⟨ret_int HR.out.symm, BB⟩
   ·rw [hb] at HC;go_wp2_with fail
    refine HC.mono ?_;rintro e w2 ⟨rfl, b2⟩;replace BB := below_step BB b2;clear b2 x0 x1 x2 x3 x4 x5 x6 x7;go_wp2;go_roundw
    case rel =>
     refine ⟨k + 1, by omega, by go_num, fun j v hj hv => ?_, BB⟩;by_cases he : j < k
     ·exact hno j v he hv
     ·have : j = k := by omega
      subst this;rw [HX.out] at hv;cases hv;exact hb
    case measure => simp [intOf]; omega
  ·have HR : Hid (badP entB xs = -1) := badP_no fun j v hv => hno j v (by have := (List.getElem?_eq_some_iff.1 hv).1; omega) hv;go_wp2;go_ret
   exact ⟨ret_int HR.out.symm, BB⟩
theorem containsBadE_any (a : Option Addr) (xs : List EntryD) (cap : Nat) (w : World) (h : SlRd entR w a xs) (hm : xs.length ≤ maxLen) :
    Calls Tryz.prog 163 #[.slice a xs.length cap, .func (.func 205) #[] #[]] w fun e w' => e = .returned (.bool (!xs.all entB)) ∧ Below w.heap.size w w' := by
 have HI := indexBadE_any a xs cap w h hm;have hab := badP_all entB xs;clear h hm;generalize badP entB xs = q at HI hab;generalize xs.all entB = y at hab ⊢;subst hab;by_cases hq : q < 0
 ·have hq2 : ¬ (0 ≤ q) := by omega
  go_enter Tryz.func163, Tryz.ntmps163;go_wp2_with fail
  refine HI.mono ?_;rintro e w1 ⟨rfl, b1⟩;go_wp2;go_ret
  exact ⟨by simp [hq], b1⟩
 ·have hq2 : 0 ≤ q := by omega
  go_enter Tryz.func163, Tryz.ntmps163;go_wp2_with fail
  refine HI.mono ?_;rintro e w1 ⟨rfl, b1⟩;go_wp2;go_ret
  exact ⟨by simp [hq], b1⟩
theorem implBookOk_any (a : Option Addr) (xs : List EntryD) (cap : Nat) (w : World) (h : SlRd entR w a xs) (hm : xs.length ≤ maxLen) :
    Calls Tryz.prog 162 #[.slice a xs.length cap] w fun e w' => e = .returned (.bool (xs.all entB)) ∧ Below w.heap.size w w' := by
 have HC := containsBadE_any a xs cap w h hm;generalize xs.all entB = y at HC ⊢;clear h hm;go_enter Tryz.func162, Tryz.ntmps162;go_wp2_with fail
 refine HC.mono ?_;rintro e w1 ⟨rfl, b1⟩;go_wp2;go_ret
 exact ⟨by simp, b1⟩
theorem implHouseOk_u (cs : List Value) (x : HouseD) (w : World) (h : houseR.rd w cs x) :
    Calls Tryz.prog 120 #[aggV cs] w fun e w' => e = .returned (.bool (houseB x)) ∧ Below w.heap.size w w' := by
 obtain ⟨v0, v1, rfl, ⟨a0, c0, e0, l1, l2, q0⟩, ⟨a1, c1, e1, m1, m2, q1⟩⟩ := house_rd h;simp only [List.cons.injEq, and_true] at e0 e1;obtain rfl := e0;obtain rfl := e1;clear h;change Calls Tryz.prog 120 #[.agg #[.slice a0 x.1.length c0, .slice a1 x.2.length c1]] w _
 have HM : Hid (∀ W, Below w.heap.size w W → Calls Tryz.prog 161 #[.slice a0 x.1.length c0] W fun e w' => e = .returned (.bool (memOk x.1)) ∧ Below W.heap.size W w') := fun W hb => implMemoryOk_any a0 x.1 c0 W (readsM_of (slrd_next q0 hb)) (Nat.le_trans l1 l2);have HB : Hid (∀ W, Below w.heap.size w W → Calls Tryz.prog 162 #[.slice a1 x.2.length c1] W fun e w' => e = .returned (.bool (x.2.all entB)) ∧ Below W.heap.size W w') := fun W hb => implBookOk_any a1 x.2 c1 W (slrd_next q1 hb) (Nat.le_trans m1 m2);have hl1 : x.1.length ≤ 9223372036854775807 := Nat.le_trans l1 l2;have hl2 : x.2.length ≤ 9223372036854775807 := Nat.le_trans m1 m2;clear q0 q1 l1 l2 m1 m2;have X := heap_at w (.cells #[.slice a0 x.1.length c0, .slice a1 x.2.length c1] 42);have B := box_below w (.cells #[.slice a0 x.1.length c0, .slice a1 x.2.length c1] 42);unfold houseB;generalize memOk x.1 = q at HM ⊢;generalize x.2.all entB = r at HB ⊢;generalize x.1.length = n at *;generalize x.2.length = m at *;go_enter Tryz.func120, Tryz.ntmps120;go_wp2_with fail
 generalize w.alloc (.cells #[.slice a0 n c0, .slice a1 m c1] 42) = W0 at X B ⊢;refine (HM.out _ B).mono ?_;rintro e w1 ⟨rfl, bq⟩;replace X := row_keep bq X;replace B := below_step B bq;clear bq;obtain ⟨x0, x1⟩ := cells_house X;cases q
 ·clear X;go_wp2;go_ret
  exact ⟨rfl, B⟩
 ·by_cases he : m = n
  ·subst he;have he2 : ((m : Int) == (m : Int)) = true := by simp
   go_wp2_with fail
   refine (HB.out _ B).mono ?_;rintro e w2 ⟨rfl, bq⟩;replace B := below_step B bq;clear bq X x0 x1;go_wp2;go_ret
   exact ⟨by simp, B⟩
  ·have he2 : ((m : Int) == (n : Int)) = false := by simp; omega
   clear X;go_wp2;go_ret
   exact ⟨by simp [he], B⟩
theorem specHouseOk_u (cs : List Value) (x : HouseD) (w : World) (h : houseR.rd w cs x) (hk : houseM.bk x ≤ 1048576) :
    Calls Tryz.prog 90 #[aggV cs] w fun e w' => e = .returned (.bool (houseB x)) ∧ Below w.heap.size w w' := by
 obtain ⟨v0, v1, rfl, ⟨a0, c0, e0, l1, l2, q0⟩, ⟨a1, c1, e1, m1, m2, q1⟩⟩ := house_rd h;simp only [List.cons.injEq, and_true] at e0 e1;obtain rfl := e0;obtain rfl := e1;clear h;obtain ⟨hl1, hl2⟩ := house_len hk;change Calls Tryz.prog 90 #[.agg #[.slice a0 x.1.length c0, .slice a1 x.2.length c1]] w _
 have HM : Hid (∀ W, Below w.heap.size w W → Calls Tryz.prog 141 #[.slice a0 x.1.length c0] W fun e w' => e = .returned (.bool (memOk x.1)) ∧ Below W.heap.size W w') := fun W hb => (specMemoryOk_any a0 x.1 c0 W (readsM_of (slrd_next q0 hb)) (by omega)).mono fun e w' ⟨q, r⟩ => ⟨q, be_eq r⟩;have HE : Hid (∀ W, Below w.heap.size w W → SlRd entR W a1 x.2) := fun W hb => slrd_next q1 hb;clear q0 q1 l1 l2 m1 m2 hk;have X := heap_at w (.cells #[.slice a0 x.1.length c0, .slice a1 x.2.length c1] 42);have B := box_below w (.cells #[.slice a0 x.1.length c0, .slice a1 x.2.length c1] 42);have HF : Hid (memOk x.1 = false → houseB x = false) := fun e => by unfold houseB; rw [e]; rfl
 have HG : Hid (¬ x.2.length = x.1.length → houseB x = false) := fun e => by unfold houseB; simp [e]
 have HB : Hid (∀ j u, x.2[j]? = some u → entB u = false → houseB x = false) := fun j u hu e => by
  have : x.2.all entB = false := by
   cases hh : x.2.all entB
   ·rfl
   ·rw [List.all_eq_true] at hh;rw [hh u (List.mem_of_getElem? hu)] at e;cases e
  unfold houseB;simp [this]
 have HT : Hid (memOk x.1 = true → x.2.length = x.1.length → (∀ j u, x.2[j]? = some u → entB u = true) → houseB x = true) := fun e1 e2 e3 => by
  have : x.2.all entB = true := List.all_eq_true.2 fun u hu => by
   obtain ⟨j, hj⟩ := List.getElem?_of_mem hu;exact e3 j u hj
  unfold houseB;simp [e1, e2, this]
 cases hmm : memOk x.1
 ·rw [HF.out hmm];rw [hmm] at HM;generalize x.1.length = n at *;generalize x.2.length = m at *;go_enter Tryz.func90, Tryz.ntmps90;go_wp2_with fail
  generalize w.alloc (.cells #[.slice a0 n c0, .slice a1 m c1] 42) = W0 at X B ⊢;refine (HM.out _ B).mono ?_;rintro e w1 ⟨rfl, bq⟩;replace B := below_step B bq;clear bq X;go_wp2;go_ret
  exact ⟨rfl, B⟩
 by_cases he : x.2.length = x.1.length
 ·rw [hmm] at HM;have HT2 : Hid ((∀ j u, x.2[j]? = some u → entB u = true) → houseB x = true) := HT.out hmm he;rw [← he] at HM X B ⊢;clear HT HF HG hmm hl1 he;go_enter Tryz.func90, Tryz.ntmps90;go_wp2_with fail
  generalize w.alloc (.cells #[.slice a0 x.2.length c0, .slice a1 x.2.length c1] 42) = W0 at X B ⊢;refine (HM.out _ B).mono ?_;rintro e w1 ⟨rfl, bq⟩;replace X := row_keep bq X;replace B := below_step B bq;clear bq;obtain ⟨x0, x1⟩ := cells_house X;go_wp2;clear x0 x1;go_loopw [3] (fun i wr => ∃ k : Nat, k ≤ x.2.length ∧ i = .int .i64 k ∧ (∀ j v, j < k → x.2[j]? = some v → entB v = true) ∧ Below w.heap.size w wr ∧ wr.heap[w.heap.size]? = some (.cells #[.slice a0 x.2.length c0, .slice a1 x.2.length c1] 42 (0, 0))) (fun i _ => x.2.length - (intOf i).toNat)
  case atStart => exact ⟨0, Nat.zero_le _, rfl, fun j v hj => by omega, B, X⟩
  case round =>
   obtain ⟨k, hk, rfl, hno, BB, XX⟩ := hrel;obtain ⟨x0, x1⟩ := cells_house XX;by_cases hlt : k < x.2.length
   ·have hlt' : (k : Int) < (x.2.length : Int) := by omega
    obtain ⟨y, hy⟩ : ∃ y, x.2[k]? = some y := ⟨_, List.getElem?_eq_getElem hlt⟩;obtain ⟨b, off, ad, cp, rfl, z0, z1, z2, z3, z4, z5, z6, z7, hd⟩ := ent_at (HE.out _ BB) hy;have HC := specEntryOk_any y.1 y.2.1 y.2.2.2.1 y.2.2.2.2.1 y.2.2.2.2.2.1 y.2.2.2.2.2.2.1 y.2.2.1 y.2.2.2.2.2.2.2 ad cp wr hd;rw [show entB (y.1, y.2.1, y.2.2.1, y.2.2.2.1, y.2.2.2.2.1, y.2.2.2.2.2.1, y.2.2.2.2.2.2.1, y.2.2.2.2.2.2.2) = entB y from rfl] at HC;have HX : Hid (x.2[k]? = some y) := hy;clear hy hd;cases hb : entB y
    ·rw [hb] at HC;go_wp2_with fail
     refine HC.mono ?_;rintro e w2 ⟨rfl, b2⟩;replace BB := below_step BB b2;clear b2 z0 z1 z2 z3 z4 z5 z6 z7 x0 x1 XX X B;go_wp2;go_ret
     exact ⟨ret_bool (HB.out k y HX.out hb).symm, BB⟩
    ·rw [hb] at HC;go_wp2_with fail
     refine HC.mono ?_;rintro e w2 ⟨rfl, b2⟩;replace BB := below_step BB b2;replace XX := row_keep b2 XX;clear b2 z0 z1 z2 z3 z4 z5 z6 z7 x0 x1 X B;go_wp2;go_roundw
     case rel =>
      refine ⟨k + 1, by omega, by go_num, fun j v hj hv => ?_, BB, XX⟩;by_cases he : j < k
      ·exact hno j v he hv
      ·have : j = k := by omega
       subst this;rw [HX.out] at hv;cases hv;exact hb
     case measure => simp [intOf]; omega
   ·have HR : Hid (houseB x = true) := HT2.out fun j v hv => hno j v (by have := (List.getElem?_eq_some_iff.1 hv).1; omega) hv;go_wp2;go_ret
    exact ⟨ret_bool HR.out.symm, BB⟩
 ·rw [HG.out he];rw [hmm] at HM;have he2 : ¬ ((x.2.length : Int) = (x.1.length : Int)) := by omega
  have he3 : ((x.2.length : Int) != (x.1.length : Int)) = true := by simp; omega
  clear HT HF HG HB HE hmm he;generalize x.1.length = n at *;generalize x.2.length = m at *;go_enter Tryz.func90, Tryz.ntmps90;go_wp2_with fail
  generalize w.alloc (.cells #[.slice a0 n c0, .slice a1 m c1] 42) = W0 at X B ⊢;refine (HM.out _ B).mono ?_;rintro e w1 ⟨rfl, bq⟩;replace X := row_keep bq X;replace B := below_step B bq;clear bq;obtain ⟨x0, x1⟩ := cells_house X;clear X;go_wp2;go_ret
  exact ⟨rfl, B⟩
end Go.Proofs.YtcocbafhcpdheaaGreatDoor
