import Derived.Test.YtcocbafhcpdheaaGreatDoorF00Box
import Derived.Laws.IdiomCopy
import Derived.Laws.Slices
import Derived.Test.YtcocbafhcpdheaaGreatDoorF27
import Derived.Test.YtcocbafhcpdheaaGreatDoorF25
namespace Go.Proofs.YtcocbafhcpdheaaGreatDoor
set_option maxHeartbeats 4000000
open Go.ChangeShapes Go.WideShapes Go.ChangeAt Go.RowKit
theorem made_zeroM (n : Nat) : (madeCells #[.int .i64 0] n).toList = (List.replicate n (0 : Int)).map (Value.int .i64) := by
 apply List.ext_getElem?
 intro i;simp only [madeCells, Array.toList_map, Array.toList_range, List.getElem?_map, List.getElem?_replicate];by_cases h : i < n
 ·simp [h, Nat.mod_one]
 ·simp [h]
theorem owni_cap {B g cap : Nat} {w : World} {zs : List Int} (h : OwnI B w g cap zs) : zs.length ≤ cap ∧ cap ≤ maxLen := by
 rcases h.2 with ⟨h', _⟩ | ⟨g', cap', cur, h', hb', hgg, hc, hm, rest⟩
 ·simp at h'
 ·simp only [Value.slice.injEq, Option.some.injEq, Addr.mk.injEq, and_true, true_and] at h';obtain ⟨rfl, rfl⟩ := h';exact ⟨hc, hm⟩
theorem newRow_any (n : Nat) (w : World) (hn : n ≤ 16) : Calls Tryz.prog 239 #[.int .i64 n] w fun e w' => ∃ v, e = .returned v ∧ Made w w' v (List.replicate (n * 2) 0) := by
 have hmk := Go.run_make_row' (P := Tryz.prog) 225 2 (.int .i64 0) 8 Tryz.underlying225 Tryz.infoI rfl .i64 .i64 (n * 2) (by omega) (by omega);have e2 : ((n * 2 : Nat) : Int) = (n : Int) * 2 := by omega
 simp only [e2] at hmk;have M := made_lit w (madeCells #[.int .i64 0] (n * 2)) (List.replicate (n * 2) 0) (made_zeroM _) (by unfold maxLen; simp; omega);rw [List.length_replicate] at M;have HM : Hid _ := M;clear M;go_enter Tryz.func239, Tryz.ntmps239;go_wp2;go_ret
 exact ⟨_, rfl, HM.out⟩
theorem cut_any (g n cap j : Nat) (w : World) (hj : j ≤ 16) (h : j * 2 + 2 ≤ cap) : Calls Tryz.prog 240 #[.slice (some ⟨g, 0, none⟩) n cap, .int .i64 j] w fun e w' => e = .returned (.slice (some ⟨g, j * 2, none⟩) 2 2) ∧ w' = w := by
 go_enter Tryz.func240, Tryz.ntmps240;go_wp2;go_ret
 refine ⟨?_, rfl⟩;have e2 : j * 2 + 2 - j * 2 = 2 := by omega
 rw [e2];rfl
def pr (zs : List Int) (j : Nat) : List Int := [zs.getD (j * 2) 0, zs.getD (j * 2 + 1) 0]
def prs (zs : List Int) (n : Nat) : List (List Int) := (List.range n).map (pr zs)
theorem Tryz.sizeI : (Tryz.prog.info? 2).map (·.size) = some 1 := by kernel_rfl
theorem copied_two {B g cap : Nat} {w : World} {zs : List Int} (h : OwnI B w g cap zs) (o : Nat) (x y : Int) :
    OwnI B (w.setCells g o [.int .i64 x, .int .i64 y]) g cap ((zs.set o x).set (o + 1) y) ∧ w.grownBy (w.setCells g o [.int .i64 x, .int .i64 y]) (some g) := by
 have R1 := World.ownsRow.stored h o (.int .i64 x);have R2 := World.ownsRow.stored R1.1 (o + 1) (.int .i64 y);refine ⟨?_, grown_trans R1.2 R2.2⟩;unfold OwnI;rw [List.length_set, List.length_set, List.map_set, List.map_set];exact R2.1
theorem owni_at {B g cap : Nat} {w : World} {zs : List Int} (h : OwnI B w g cap zs) (i : Nat) (hi : i < zs.length) : w.cell? ⟨g, i, none⟩ = some (.int .i64 (zs.getD i 0)) := by
 rw [World.ownsRow.cellAt h i (by omega)];simp [List.getD_eq_getElem?_getD, hi]
theorem run_copy_two (w : World) (ty : TypeId) (b o : Nat) (B cap : Nat) (zs : List Int) (a : Addr) (dc sc : Nat) (x y : Int) (h : OwnI B w b cap zs) (ho : o + 2 ≤ zs.length)
    (h0 : w.cell? a = some (.int .i64 x)) (h1 : w.cell? (a.add 1) = some (.int .i64 y)) :
    (Builtin.copy_ #[37, 37] ty #[.slice (some ⟨b, o, none⟩) 2 dc, .slice (some a) 2 sc]).run Tryz.prog w = .ok (.int .i64 2) (w.setCells b o [.int .i64 x, .int .i64 y]) := by
 refine run_copy_cells (P := Tryz.prog) w 37 37 ty 2 b o 2 dc a 2 sc [.int .i64 x, .int .i64 y] Tryz.underlying37 Tryz.sizeI rfl ?_ ?_ ?_ ?_
 ·intro j v hj;match j, hj with
  | 0, hj => simp at hj; subst hj; rw [show a.add 0 = a from by simp [Addr.add]]; exact h0
  | 1, hj => simp at hj; subst hj; exact h1
 ·intro j hj;rw [owni_at h (o + j) (by simp at hj; omega)];rfl
 ·intro j _;exact World.ownsRow.frozenAt h (o + j)
 ·intro v hv;simp at hv
  rcases hv with rfl | rfl <;> rfl
theorem prs_len (zs : List Int) (n : Nat) : (prs zs n).length = n := by simp [prs]
theorem pr_set (zs : List Int) (k i : Nat) (x y : Int) (h : k * 2 + 1 < zs.length) : pr ((zs.set (k * 2) x).set (k * 2 + 1) y) i = if i = k then [x, y] else pr zs i := by
 unfold pr;by_cases e : i = k
 ·subst e;simp [List.getD_eq_getElem?_getD, show i * 2 < zs.length by omega, h]
 ·rw [if_neg e];have a1 : ¬ k * 2 = i * 2 := by omega
  have a2 : ¬ k * 2 + 1 = i * 2 := by omega
  have a3 : ¬ k * 2 = i * 2 + 1 := by omega
  have a4 : ¬ k * 2 + 1 = i * 2 + 1 := by omega
  rw [List.getD_eq_getElem?_getD, List.getD_eq_getElem?_getD, List.getElem?_set_ne a2, List.getElem?_set_ne a1, List.getElem?_set_ne a4, List.getElem?_set_ne a3, ← List.getD_eq_getElem?_getD, ← List.getD_eq_getElem?_getD]
theorem prs_get {zs : List Int} {n i : Nat} (h : i < n) : (prs zs n)[i]? = some (pr zs i) := by simp [prs, h]
def memOk (xss : List (List Int)) : Bool := betw xss.length 1 16 && xss.all isL
theorem memOk_not {xss : List (List Int)} {k : Nat} {xs : List Int} (hx : xss[k]? = some xs) (hn : isL xs = false) : memOk xss = false := by
 unfold memOk;rw [Bool.and_eq_false_iff];right
 rw [List.all_eq_false];exact ⟨xs, List.mem_of_getElem? hx, by simp [hn]⟩
theorem memOk_all {xss : List (List Int)} (hl : betw xss.length 1 16 = true) (h : ∀ (i : Nat) xs, i < xss.length → xss[i]? = some xs → isL xs = true) : memOk xss = true := by
 unfold memOk;rw [hl, Bool.true_and, List.all_eq_true];intro xs hx;obtain ⟨i, hi, rfl⟩ := List.mem_iff_getElem.1 hx;exact h i _ hi (List.getElem?_eq_getElem hi)
theorem prs_all {xss : List (List Int)} {zs : List Int} (h : ∀ (i : Nat) xs, i < xss.length → xss[i]? = some xs → pr zs i = xs) : prs zs xss.length = xss := by
 apply List.ext_getElem?
 intro i;by_cases hi : i < xss.length
 ·obtain ⟨xs, hx⟩ := get_of_lt hi;rw [prs_get hi, hx, h i xs hi hx]
 ·rw [List.getElem?_eq_none (by rw [prs_len]; omega), List.getElem?_eq_none (by omega)]
theorem rowOf_any (a : Option Addr) (xss : List (List Int)) (cap : Nat) (w : World) (h : ReadsM w a xss) (hm : xss.length ≤ 9223372036854775807) :
    Calls Tryz.prog 204 #[.slice a xss.length cap] w fun e w' => ∃ v, e = .returned (.tuple #[v, .bool (memOk xss)]) ∧ Below w.heap.size w w' ∧
     (memOk xss = true → ∃ zs, zs.length = xss.length * 2 ∧ prs zs xss.length = xss ∧ Made w w' v zs) := by
 cases hl : betw xss.length 1 16
 ·have HM : memOk xss = false := by unfold memOk; rw [hl]; rfl
  rw [HM];go_enter Tryz.func204, Tryz.ntmps204;go_wp2_with (go_at_call 160; refine (linesOk_any _ _).mono ?_; rintro e w' ⟨rfl, rfl⟩)
  go_ret2
  exact ⟨_, rfl, (Below.refl _ _).alloc (Nat.le_refl _) _, fun h => by cases h⟩
 ·have hln : 1 ≤ xss.length ∧ xss.length ≤ 16 := by simp [betw] at hl; omega
  go_enter Tryz.func204, Tryz.ntmps204;go_wp2_with (go_at_call 160; refine (linesOk_any _ _).mono ?_; rintro e w' ⟨rfl, hw'⟩; rw [hw']; clear hw' w')
  refine (newRow_any _ _ hln.2).mono ?_;rintro e w1 ⟨v, rfl, g, c, rfl, l1, l1', o1, b1⟩;go_wp2_with fail
  go_loopw [18] (fun i wr => ∃ k : Nat, k ≤ xss.length ∧ i = .int .i64 k ∧ ∃ zs : List Int, zs.length = xss.length * 2 ∧ (∀ (i : Nat) xs, i < k → xss[i]? = some xs → pr zs i = xs ∧ isL xs = true) ∧ OwnI w.heap.size wr g c zs ∧ Below w.heap.size w wr)
   (fun i _ => xss.length - (intOf i).toNat)
  case atStart => exact ⟨0, Nat.zero_le _, rfl, _, by simp, fun i xs hi => absurd hi (Nat.not_lt_zero _), o1, b1⟩
  case round =>
   obtain ⟨k, hk, rfl, zs, hz, hall, ho, hb⟩ := hrel;clear o1 b1 l1';by_cases hlt : k < xss.length
   ·have hlt' : (k : Int) < (xss.length : Int) := by omega
    obtain ⟨xs, hx⟩ := get_of_lt hlt;obtain ⟨b, off, aj, cj, rfl, g1, hr⟩ := readsM_at (readsM_below h hb) hx;have HR : Hid (Reads wr aj xs) := hr;have HX : Hid (xss[k]? = some xs) := hx;have HA : Hid _ := hall;have HZ : Hid (zs.length = xss.length * 2) := hz;clear h hr hx hall hz;go_wp2_with fail
    refine (implLineOk_any _ xs _ _ HR.out).mono ?_;rintro e w2 ⟨rfl, b2⟩;have B2 := below_step hb b2;rcases isL_cases xs with hn | ⟨x, y, rfl, hx, hy⟩
    ·rw [hn];have HM := memOk_not HX.out hn;clear HX HA HR ho hb b2;go_wp2;rw [HM];go_ret2
     exact ⟨_, rfl, B2.alloc B2.size _, fun h => by cases h⟩
    ·have hy' := isL_yes hx hy;rw [hy'];have o2 := owni_below ho b2 (owni_lt ho).2;have R2 := reads_below HR.out b2;obtain ⟨b', off', rfl, q1, q2⟩ := reads_two R2;have CP := run_copy_two w2 3 g (k * 2) w.heap.size c zs ⟨b', off', none⟩ 2 cj x y o2 (by have := HZ.out; omega) q1 (by simpa [Addr.add] using q2);have HO : Hid _ := copied_two o2 (k * 2) x y;have hcc : k * 2 + 2 ≤ c := by have := (owni_cap o2).1; have := HZ.out; omega
     clear HR ho hb b2 R2 q1 q2 o2;generalize hW : w2.setCells g (k * 2) [.int .i64 x, .int .i64 y] = W at CP HO;clear hW;go_wp2_with (go_at_call 240; refine (cut_any _ _ _ _ _ (by omega) hcc).mono ?_; rintro e w' ⟨rfl, hw'⟩; rw [hw']; clear hw' w')
     go_roundw
     case rel =>
      refine ⟨k + 1, by omega, by go_num, (zs.set (k * 2) x).set (k * 2 + 1) y, by have := HZ.out; simpa using this, ?_, HO.out.1, B2.grown HO.out.2 B2.size (by intro j hj; cases hj; exact l1)⟩;intro i xs hi hxi;rw [pr_set zs k i x y (by have := HZ.out; omega)];by_cases e : i = k
      ·subst e;rw [HX.out] at hxi;cases hxi;exact ⟨if_pos rfl, hy'⟩
      ·rw [if_neg e];exact HA.out i xs (by omega) hxi
     case measure => simp [intOf]; omega
   ·have hkl : k = xss.length := by omega
    subst hkl;have HM := memOk_all hl (fun i xs hi hx => (hall i xs hi hx).2);have HP : Hid _ := prs_all (fun i xs hi hx => (hall i xs hi hx).1);have HZ : Hid (zs.length = xss.length * 2) := hz;clear hz;go_wp2;rw [HM];go_ret2
    exact ⟨_, rfl, hb, fun _ => ⟨zs, HZ.out, HP.out, g, c, by rw [HZ.out]; rfl, l1, (owni_lt ho).2, ho, hb⟩⟩
theorem implMemoryOk_any (a : Option Addr) (xss : List (List Int)) (cap : Nat) (w : World) (h : ReadsM w a xss) (hm : xss.length ≤ 9223372036854775807) :
    Calls Tryz.prog 161 #[.slice a xss.length cap] w fun e w' => e = .returned (.bool (memOk xss)) ∧ Below w.heap.size w w' := by
 go_enter Tryz.func161, Tryz.ntmps161;go_wp2_with fail
 refine (rowOf_any _ xss _ _ h hm).mono ?_;rintro e w1 ⟨v, rfl, b1, _⟩;go_wp2;go_ret
 exact ⟨rfl, b1⟩
theorem specMemoryOk_any (a : Option Addr) (xss : List (List Int)) (cap : Nat) (w : World) (h : ReadsM w a xss) (hm : xss.length ≤ 2305843009213693952) :
    Calls Tryz.prog 141 #[.slice a xss.length cap] w fun e w' => e = .returned (.bool (memOk xss)) ∧ w' = w := by
 go_enter Tryz.func141, Tryz.ntmps141;go_wp2;go_loop [3] (fun i => ∃ k : Nat, k ≤ xss.length ∧ i = .int .i64 k ∧ ∀ (i : Nat) xs, i < k → xss[i]? = some xs → isL xs = true) (fun i => xss.length - (intOf i).toNat)
 case atStart => exact ⟨0, Nat.zero_le _, rfl, fun i xs hi => absurd hi (Nat.not_lt_zero _)⟩
 case round =>
  obtain ⟨k, hk, rfl, hall⟩ := hrel;by_cases hlt : k < xss.length
  ·have hlt' : (k : Int) < (xss.length : Int) := by omega
   obtain ⟨xs, hx⟩ := get_of_lt hlt;obtain ⟨b, off, aj, cj, rfl, g1, hr⟩ := readsM_at h hx;have HR : Hid (Reads w aj xs) := hr;have HX : Hid (xss[k]? = some xs) := hx;have HA : Hid _ := hall;clear h hr hx hall;cases hn : isL xs
   ·have HM := memOk_not HX.out hn;go_wp2_with (go_at_call 144; refine (specLineOk_any _ xs _ _ HR.out).mono ?_; rintro e w' ⟨rfl, hw'⟩; rw [hw', hn]; clear hw' w')
    go_ret
    exact ⟨ret_bool (by first | rfl | exact HM.symm | simp [HM]), rfl⟩
   ·go_wp2_with (go_at_call 144; refine (specLineOk_any _ xs _ _ HR.out).mono ?_; rintro e w' ⟨rfl, hw'⟩; rw [hw', hn]; clear hw' w')
    go_round
    case rel =>
     refine ⟨k + 1, by omega, by go_num, fun i ys hi hy => ?_⟩;by_cases e : i = k
     ·subst e;rw [HX.out] at hy;cases hy;exact hn
     ·exact HA.out i ys (by omega) hy
    case measure => simp [intOf]; omega
  ·have hkl : k = xss.length := by omega
   subst hkl;have HB : Hid (betw (xss.length : Int) 1 16 = memOk xss) := by
    unfold Hid;cases hl : betw (xss.length : Int) 1 16
    ·unfold memOk; rw [hl]; rfl
    ·exact (memOk_all hl hall).symm
   clear hall;go_wp2_with (go_at_call 98; refine (l1In_any _ _ _ _).mono ?_; rintro e w' ⟨rfl, rfl⟩)
   go_ret
   exact ⟨ret_bool HB.out, rfl⟩
set_option linter.unusedVariables false
def houseB (x : HouseD) : Bool := memOk x.1 && (decide (x.2.length = x.1.length) && x.2.all entB)
theorem house_len {x : HouseD} (h : houseM.bk x ≤ 1048576) : x.1.length ≤ 1048576 ∧ x.2.length ≤ 1048576 := by
 have e : houseM.bk x = (x.1.length + sumbk intsM x.1) + (x.2.length + sumbk entM x.2) := rfl;omega
theorem ent_at {w : World} {a : Option Addr} {xs : List EntryD} {k : Nat} {x : EntryD} (h : SlRd entR w a xs) (hx : xs[k]? = some x) :
    ∃ b off ad cp, a = some ⟨b, off, none⟩ ∧ w.cell? ⟨b, off + k * 8, none⟩ = some (.int .i64 x.1) ∧ w.cell? ⟨b, off + k * 8 + 1, none⟩ = some (.int .i64 x.2.1) ∧ w.cell? ⟨b, off + k * 8 + 2, none⟩ = some (.bool x.2.2.1) ∧ w.cell? ⟨b, off + k * 8 + 3, none⟩ = some (.int .i64 x.2.2.2.1) ∧ w.cell? ⟨b, off + k * 8 + 4, none⟩ = some (.int .i64 x.2.2.2.2.1) ∧ w.cell? ⟨b, off + k * 8 + 5, none⟩ = some (.int .i64 x.2.2.2.2.2.1) ∧ w.cell? ⟨b, off + k * 8 + 6, none⟩ = some (.int .i64 x.2.2.2.2.2.2.1) ∧ w.cell? ⟨b, off + k * 8 + 7, none⟩ = some (.slice ad x.2.2.2.2.2.2.2.length cp) ∧ SlRd intR w ad x.2.2.2.2.2.2.2 := by
 obtain ⟨b, off, cs, rfl, hrd, hcell⟩ := slrd_at h hx;obtain ⟨ad, cp, rfl, -, -, -, -, -, -, -, -, hd⟩ := ent_rd hrd;exact ⟨b, off, ad, cp, rfl, hcell 0 _ rfl, hcell 1 _ rfl, hcell 2 _ rfl, hcell 3 _ rfl, hcell 4 _ rfl, hcell 5 _ rfl, hcell 6 _ rfl, hcell 7 _ rfl, hd⟩
theorem bookOk1_any (x : EntryD) (ad : Option Addr) (cp : Nat) (w : World) (h : SlRd intR w ad x.2.2.2.2.2.2.2) :
    Calls Tryz.prog 205 #[.agg #[.int .i64 x.1, .int .i64 x.2.1, .bool x.2.2.1, .int .i64 x.2.2.2.1, .int .i64 x.2.2.2.2.1, .int .i64 x.2.2.2.2.2.1, .int .i64 x.2.2.2.2.2.2.1, .slice ad x.2.2.2.2.2.2.2.length cp]] w fun e w' => e = .returned (.bool (!entB x)) ∧ Below w.heap.size w w' := by
 have B := box_below w (.cells #[.int .i64 x.1, .int .i64 x.2.1, .bool x.2.2.1, .int .i64 x.2.2.2.1, .int .i64 x.2.2.2.2.1, .int .i64 x.2.2.2.2.2.1, .int .i64 x.2.2.2.2.2.2.1, .slice ad x.2.2.2.2.2.2.2.length cp] 147);have HM : Hid (∀ W, Below w.heap.size w W → Calls Tryz.prog 206 #[.agg #[.int .i64 x.1, .int .i64 x.2.1, .bool x.2.2.1, .int .i64 x.2.2.2.1, .int .i64 x.2.2.2.2.1, .int .i64 x.2.2.2.2.2.1, .int .i64 x.2.2.2.2.2.2.1, .slice ad x.2.2.2.2.2.2.2.length cp]] W fun e w' => e = .returned (.bool (entB x)) ∧ Below W.heap.size W w') := fun W hb => implEntryOk_any x.1 x.2.1 x.2.2.2.1 x.2.2.2.2.1 x.2.2.2.2.2.1 x.2.2.2.2.2.2.1 x.2.2.1 x.2.2.2.2.2.2.2 ad cp W (slrd_next h hb);generalize entB x = q at HM ⊢;clear h;go_enter Tryz.func205, Tryz.ntmps205;go_wp2_with fail
 generalize w.alloc (.cells #[.int .i64 x.1, .int .i64 x.2.1, .bool x.2.2.1, .int .i64 x.2.2.2.1, .int .i64 x.2.2.2.2.1, .int .i64 x.2.2.2.2.2.1, .int .i64 x.2.2.2.2.2.2.1, .slice ad x.2.2.2.2.2.2.2.length cp] 147) = W0 at B ⊢;refine (HM.out _ B).mono ?_;rintro e w1 ⟨rfl, b1⟩;go_wp2;go_ret
 exact ⟨rfl, below_step B b1⟩
theorem indexBadE_any (a : Option Addr) (xs : List EntryD) (cap : Nat) (w : World) (h : SlRd entR w a xs) (hm : xs.length ≤ maxLen) :
    Calls Tryz.prog 207 #[.slice a xs.length cap, .func (.func 205) #[] #[]] w fun e w' => e = .returned (.int .i64 (badP entB xs)) ∧ Below w.heap.size w w' := by
 have hm' : xs.length ≤ 9223372036854775807 := hm;have H0 : Hid (∀ W, Below w.heap.size w W → SlRd entR W a xs) := fun W hb => slrd_keep h fun k hk => hb.block k hk;clear h hm;go_enter Tryz.func207, Tryz.ntmps207;go_wp2;go_loopw [8] (fun i wr => ∃ k : Nat, k ≤ xs.length ∧ i = .int .i64 k ∧ (∀ j v, j < k → xs[j]? = some v → entB v = true) ∧ Below w.heap.size w wr) (fun i _ => xs.length - (intOf i).toNat)
 case atStart => exact ⟨0, Nat.zero_le _, rfl, fun j v hj => by omega, Below.refl _ _⟩
 case round =>
  obtain ⟨k, hk, rfl, hno, BB⟩ := hrel;by_cases hlt : k < xs.length
  ·have hlt' : (k : Int) < (xs.length : Int) := by omega
   obtain ⟨x, hx⟩ : ∃ x, xs[k]? = some x := ⟨_, List.getElem?_eq_getElem hlt⟩;obtain ⟨b, off, ad, cp, rfl, x0, x1, x2, x3, x4, x5, x6, x7, hd⟩ := ent_at (H0.out _ BB) hx;have HC := bookOk1_any x ad cp wr hd;clear hd;have HX : Hid (xs[k]? = some x) := hx;clear hx;cases hb : entB x
   ·have HR : Hid (badP entB xs = k) := badP_at HX.out hb hno;rw [hb] at HC;go_wp2_with fail
    refine HC.mono ?_;rintro e w2 ⟨rfl, b2⟩;replace BB := below_step BB b2;clear b2 x0 x1 x2 x3 x4 x5 x6 x7;go_wp2;go_ret
    exact ⟨ret_int HR.out.symm, BB⟩
   ·rw [hb] at HC;go_wp2_with fail
    refine HC.mono ?_;rintro e w2 ⟨rfl, b2⟩;replace BB := below_step BB b2;clear b2 x0 x1 x2 x3 x4 x5 x6 x7;go_wp2;go_roundw
    case rel =>
     refine ⟨k + 1, by omega, by go_num, fun j v hj hv => ?_, BB⟩;by_cases he : j < k
     ·exact hno j v he hv
     ·have : j = k := by omega
      subst this;rw [HX.out] at hv;cases hv;exact hb
    case measure => simp [intOf]; omega
  ·have HR : Hid (badP entB xs = -1) := badP_no fun j v hv => hno j v (by have := (List.getElem?_eq_some_iff.1 hv).1; omega) hv;go_wp2;go_ret
   exact ⟨ret_int HR.out.symm, BB⟩
theorem containsBadE_any (a : Option Addr) (xs : List EntryD) (cap : Nat) (w : World) (h : SlRd entR w a xs) (hm : xs.length ≤ maxLen) :
    Calls Tryz.prog 163 #[.slice a xs.length cap, .func (.func 205) #[] #[]] w fun e w' => e = .returned (.bool (!xs.all entB)) ∧ Below w.heap.size w w' := by
 have HI := indexBadE_any a xs cap w h hm;have hab := badP_all entB xs;clear h hm;generalize badP entB xs = q at HI hab;generalize xs.all entB = y at hab ⊢;subst hab;by_cases hq : q < 0
 ·have hq2 : ¬ (0 ≤ q) := by omega
  go_enter Tryz.func163, Tryz.ntmps163;go_wp2_with fail
  refine HI.mono ?_;rintro e w1 ⟨rfl, b1⟩;go_wp2;go_ret
  exact ⟨by simp [hq], b1⟩
 ·have hq2 : 0 ≤ q := by omega
  go_enter Tryz.func163, Tryz.ntmps163;go_wp2_with fail
  refine HI.mono ?_;rintro e w1 ⟨rfl, b1⟩;go_wp2;go_ret
  exact ⟨by simp [hq], b1⟩
theorem implBookOk_any (a : Option Addr) (xs : List EntryD) (cap : Nat) (w : World) (h : SlRd entR w a xs) (hm : xs.length ≤ maxLen) :
    Calls Tryz.prog 162 #[.slice a xs.length cap] w fun e w' => e = .returned (.bool (xs.all entB)) ∧ Below w.heap.size w w' := by
 have HC := containsBadE_any a xs cap w h hm;generalize xs.all entB = y at HC ⊢;clear h hm;go_enter Tryz.func162, Tryz.ntmps162;go_wp2_with fail
 refine HC.mono ?_;rintro e w1 ⟨rfl, b1⟩;go_wp2;go_ret
 exact ⟨by simp, b1⟩
theorem implHouseOk_u (cs : List Value) (x : HouseD) (w : World) (h : houseR.rd w cs x) :
    Calls Tryz.prog 120 #[aggV cs] w fun e w' => e = .returned (.bool (houseB x)) ∧ Below w.heap.size w w' := by
 obtain ⟨v0, v1, rfl, ⟨a0, c0, e0, l1, l2, q0⟩, ⟨a1, c1, e1, m1, m2, q1⟩⟩ := house_rd h;simp only [List.cons.injEq, and_true] at e0 e1;obtain rfl := e0;obtain rfl := e1;clear h;change Calls Tryz.prog 120 #[.agg #[.slice a0 x.1.length c0, .slice a1 x.2.length c1]] w _
 have HM : Hid (∀ W, Below w.heap.size w W → Calls Tryz.prog 161 #[.slice a0 x.1.length c0] W fun e w' => e = .returned (.bool (memOk x.1)) ∧ Below W.heap.size W w') := fun W hb => implMemoryOk_any a0 x.1 c0 W (readsM_of (slrd_next q0 hb)) (Nat.le_trans l1 l2);have HB : Hid (∀ W, Below w.heap.size w W → Calls Tryz.prog 162 #[.slice a1 x.2.length c1] W fun e w' => e = .returned (.bool (x.2.all entB)) ∧ Below W.heap.size W w') := fun W hb => implBookOk_any a1 x.2 c1 W (slrd_next q1 hb) (Nat.le_trans m1 m2);have hl1 : x.1.length ≤ 9223372036854775807 := Nat.le_trans l1 l2;have hl2 : x.2.length ≤ 9223372036854775807 := Nat.le_trans m1 m2;clear q0 q1 l1 l2 m1 m2;have X := heap_at w (.cells #[.slice a0 x.1.length c0, .slice a1 x.2.length c1] 42);have B := box_below w (.cells #[.slice a0 x.1.length c0, .slice a1 x.2.length c1] 42);unfold houseB;generalize memOk x.1 = q at HM ⊢;generalize x.2.all entB = r at HB ⊢;generalize x.1.length = n at *;generalize x.2.length = m at *;go_enter Tryz.func120, Tryz.ntmps120;go_wp2_with fail
 generalize w.alloc (.cells #[.slice a0 n c0, .slice a1 m c1] 42) = W0 at X B ⊢;refine (HM.out _ B).mono ?_;rintro e w1 ⟨rfl, bq⟩;replace X := row_keep bq X;replace B := below_step B bq;clear bq;obtain ⟨x0, x1⟩ := cells_house X;cases q
 ·clear X;go_wp2;go_ret
  exact ⟨rfl, B⟩
 ·by_cases he : m = n
  ·subst he;have he2 : ((m : Int) == (m : Int)) = true := by simp
   go_wp2_with fail
   refine (HB.out _ B).mono ?_;rintro e w2 ⟨rfl, bq⟩;replace B := below_step B bq;clear bq X x0 x1;go_wp2;go_ret
   exact ⟨by simp, B⟩
  ·have he2 : ((m : Int) == (n : Int)) = false := by simp; omega
   clear X;go_wp2;go_ret
   exact ⟨by simp [he], B⟩
theorem specHouseOk_u (cs : List Value) (x : HouseD) (w : World) (h : houseR.rd w cs x) (hk : houseM.bk x ≤ 1048576) :
    Calls Tryz.prog 90 #[aggV cs] w fun e w' => e = .returned (.bool (houseB x)) ∧ Below w.heap.size w w' := by
 obtain ⟨v0, v1, rfl, ⟨a0, c0, e0, l1, l2, q0⟩, ⟨a1, c1, e1, m1, m2, q1⟩⟩ := house_rd h;simp only [List.cons.injEq, and_true] at e0 e1;obtain rfl := e0;obtain rfl := e1;clear h;obtain ⟨hl1, hl2⟩ := house_len hk;change Calls Tryz.prog 90 #[.agg #[.slice a0 x.1.length c0, .slice a1 x.2.length c1]] w _
 have HM : Hid (∀ W, Below w.heap.size w W → Calls Tryz.prog 141 #[.slice a0 x.1.length c0] W fun e w' => e = .returned (.bool (memOk x.1)) ∧ Below W.heap.size W w') := fun W hb => (specMemoryOk_any a0 x.1 c0 W (readsM_of (slrd_next q0 hb)) (by omega)).mono fun e w' ⟨q, r⟩ => ⟨q, be_eq r⟩;have HE : Hid (∀ W, Below w.heap.size w W → SlRd entR W a1 x.2) := fun W hb => slrd_next q1 hb;clear q0 q1 l1 l2 m1 m2 hk;have X := heap_at w (.cells #[.slice a0 x.1.length c0, .slice a1 x.2.length c1] 42);have B := box_below w (.cells #[.slice a0 x.1.length c0, .slice a1 x.2.length c1] 42);have HF : Hid (memOk x.1 = false → houseB x = false) := fun e => by unfold houseB; rw [e]; rfl
 have HG : Hid (¬ x.2.length = x.1.length → houseB x = false) := fun e => by unfold houseB; simp [e]
 have HB : Hid (∀ j u, x.2[j]? = some u → entB u = false → houseB x = false) := fun j u hu e => by
  have : x.2.all entB = false := by
   cases hh : x.2.all entB
   ·rfl
   ·rw [List.all_eq_true] at hh;rw [hh u (List.mem_of_getElem? hu)] at e;cases e
  unfold houseB;simp [this]
 have HT : Hid (memOk x.1 = true → x.2.length = x.1.length → (∀ j u, x.2[j]? = some u → entB u = true) → houseB x = true) := fun e1 e2 e3 => by
  have : x.2.all entB = true := List.all_eq_true.2 fun u hu => by
   obtain ⟨j, hj⟩ := List.getElem?_of_mem hu;exact e3 j u hj
  unfold houseB;simp [e1, e2, this]
 cases hmm : memOk x.1
 ·rw [HF.out hmm];rw [hmm] at HM;generalize x.1.length = n at *;generalize x.2.length = m at *;go_enter Tryz.func90, Tryz.ntmps90;go_wp2_with fail
  generalize w.alloc (.cells #[.slice a0 n c0, .slice a1 m c1] 42) = W0 at X B ⊢;refine (HM.out _ B).mono ?_;rintro e w1 ⟨rfl, bq⟩;replace B := below_step B bq;clear bq X;go_wp2;go_ret
  exact ⟨rfl, B⟩
 by_cases he : x.2.length = x.1.length
 ·rw [hmm] at HM;have HT2 : Hid ((∀ j u, x.2[j]? = some u → entB u = true) → houseB x = true) := HT.out hmm he;rw [← he] at HM X B ⊢;clear HT HF HG hmm hl1 he;go_enter Tryz.func90, Tryz.ntmps90;go_wp2_with fail
  generalize w.alloc (.cells #[.slice a0 x.2.length c0, .slice a1 x.2.length c1] 42) = W0 at X B ⊢;refine (HM.out _ B).mono ?_;rintro e w1 ⟨rfl, bq⟩;replace X := row_keep bq X;replace B := below_step B bq;clear bq;obtain ⟨x0, x1⟩ := cells_house X;go_wp2;clear x0 x1;go_loopw [3] (fun i wr => ∃ k : Nat, k ≤ x.2.length ∧ i = .int .i64 k ∧ (∀ j v, j < k → x.2[j]? = some v → entB v = true) ∧ Below w.heap.size w wr ∧ wr.heap[w.heap.size]? = some (.cells #[.slice a0 x.2.length c0, .slice a1 x.2.length c1] 42 (0, 0))) (fun i _ => x.2.length - (intOf i).toNat)
  case atStart => exact ⟨0, Nat.zero_le _, rfl, fun j v hj => by omega, B, X⟩
  case round =>
   obtain ⟨k, hk, rfl, hno, BB, XX⟩ := hrel;obtain ⟨x0, x1⟩ := cells_house XX;by_cases hlt : k < x.2.length
   ·have hlt' : (k : Int) < (x.2.length : Int) := by omega
    obtain ⟨y, hy⟩ : ∃ y, x.2[k]? = some y := ⟨_, List.getElem?_eq_getElem hlt⟩;obtain ⟨b, off, ad, cp, rfl, z0, z1, z2, z3, z4, z5, z6, z7, hd⟩ := ent_at (HE.out _ BB) hy;have HC := specEntryOk_any y.1 y.2.1 y.2.2.2.1 y.2.2.2.2.1 y.2.2.2.2.2.1 y.2.2.2.2.2.2.1 y.2.2.1 y.2.2.2.2.2.2.2 ad cp wr hd;rw [show entB (y.1, y.2.1, y.2.2.1, y.2.2.2.1, y.2.2.2.2.1, y.2.2.2.2.2.1, y.2.2.2.2.2.2.1, y.2.2.2.2.2.2.2) = entB y from rfl] at HC;have HX : Hid (x.2[k]? = some y) := hy;clear hy hd;cases hb : entB y
    ·rw [hb] at HC;go_wp2_with fail
     refine HC.mono ?_;rintro e w2 ⟨rfl, b2⟩;replace BB := below_step BB b2;clear b2 z0 z1 z2 z3 z4 z5 z6 z7 x0 x1 XX X B;go_wp2;go_ret
     exact ⟨ret_bool (HB.out k y HX.out hb).symm, BB⟩
    ·rw [hb] at HC;go_wp2_with fail
     refine HC.mono ?_;rintro e w2 ⟨rfl, b2⟩;replace BB := below_step BB b2;replace XX := row_keep b2 XX;clear b2 z0 z1 z2 z3 z4 z5 z6 z7 x0 x1 X B;go_wp2;go_roundw
     case rel =>
      refine ⟨k + 1, by omega, by go_num, fun j v hj hv => ?_, BB, XX⟩;by_cases he : j < k
      ·exact hno j v he hv
      ·have : j = k := by omega
       subst this;rw [HX.out] at hv;cases hv;exact hb
     case measure => simp [intOf]; omega
   ·have HR : Hid (houseB x = true) := HT2.out fun j v hv => hno j v (by have := (List.getElem?_eq_some_iff.1 hv).1; omega) hv;go_wp2;go_ret
    exact ⟨ret_bool HR.out.symm, BB⟩
 ·rw [HG.out he];rw [hmm] at HM;have he2 : ¬ ((x.2.length : Int) = (x.1.length : Int)) := by omega
  have he3 : ((x.2.length : Int) != (x.1.length : Int)) = true := by simp; omega
  clear HT HF HG HB HE hmm he;generalize x.1.length = n at *;generalize x.2.length = m at *;go_enter Tryz.func90, Tryz.ntmps90;go_wp2_with fail
  generalize w.alloc (.cells #[.slice a0 n c0, .slice a1 m c1] 42) = W0 at X B ⊢;refine (HM.out _ B).mono ?_;rintro e w1 ⟨rfl, bq⟩;replace X := row_keep bq X;replace B := below_step B bq;clear bq;obtain ⟨x0, x1⟩ := cells_house X;clear X;go_wp2;go_ret
  exact ⟨rfl, B⟩
end Go.Proofs.YtcocbafhcpdheaaGreatDoor
