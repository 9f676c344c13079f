import Derived.Test.YthnfkacboijneaaGreatDoorP03Nums
import Derived.Test.YthnfkacboijneaaGreatDoorP15Entries
import Derived.Test.YthnfkacboijneaaGreatDoorP09OpL
import Derived.Test.YthnfkacboijneaaGreatDoorP04Mems
import Derived.Test.YthnfkacboijneaaGreatDoorP10Ops
import Derived.Laws.IdiomCopy
import Derived.Laws.Slices
namespace Go.Proofs.YthnfkacboijneaaGreatDoor
set_option maxHeartbeats 1000000
def badP {α : Type} (p : α → Bool) (xs : List α) : Int := match xs.findIdx? (fun u => !p u) with
 | some i => (i : Int)
 | none => -1
theorem badP_at {α : Type} {p : α → Bool} {xs : List α} {k : Nat} {u : α} (hu : xs[k]? = some u) (hp : p u = false) (hno : ∀ j v, j < k → xs[j]? = some v → p v = true) : badP p xs = (k : Int) := by
 have hk := (List.getElem?_eq_some_iff.1 hu).1
 have : xs.findIdx? (fun u => !p u) = some k := by
  rw [List.findIdx?_eq_some_iff_getElem]
  refine ⟨hk, ?_, fun j hj => ?_⟩
  ·rw [List.getElem?_eq_getElem hk] at hu
   cases hu
   simp [hp]
  ·have := hno j _ hj (List.getElem?_eq_getElem (by omega))
   simp [this]
 unfold badP
 rw [this]
theorem badP_no {α : Type} {p : α → Bool} {xs : List α} (hno : ∀ (j : Nat) (v : α), xs[j]? = some v → p v = true) : badP p xs = -1 := by
 have : xs.findIdx? (fun u => !p u) = none := by
  rw [List.findIdx?_eq_none_iff]
  intro u hu
  obtain ⟨j, hj⟩ := List.getElem?_of_mem hu
  simp [hno j u hj]
 unfold badP
 rw [this]
theorem badP_all {α : Type} (p : α → Bool) (xs : List α) : xs.all p = decide (badP p xs < 0) := by
 cases h : xs.all p
 ·have h1 : ¬ ∀ x ∈ xs, p x = true := fun hh => by rw [List.all_eq_true.2 hh] at h; cases h
  cases hf : xs.findIdx? (fun u => !p u) with
  | none =>
   rw [List.findIdx?_eq_none_iff] at hf
   exact (h1 fun x hx => by have := hf x hx; simpa using this).elim
  | some i => simp [badP, hf]
 ·rw [badP_no fun j v hv => List.all_eq_true.1 h v (List.mem_of_getElem? hv)]
  rfl
open Go.ChangeShapes Go.WideShapes Go.ChangeAt Go.RowKit
set_option linter.unusedVariables false
theorem Tryz.infoS : (Tryz.prog.info? 79).map (fun i => (i.zero, i.size, i.bytes)) = some (some (.slice none 0 0), 1, 24) := by kernel_rfl
theorem owni_less {B B' g cap : Nat} {w : World} {zs : List Int} (h : OwnI B w g cap zs) (hb : B' ≤ B) : OwnI B' w g cap zs := own_mono h hb
theorem set_step (l ys : List Value) (v : Value) (k : Nat) (hl : l.length = k) (h2 : k < ys.length) : (l ++ ys.drop k).set k v = (l ++ [v]) ++ ys.drop (k + 1) := by
 rw [List.set_append_right _ _ (by omega), hl, Nat.sub_self, List.drop_eq_getElem_cons h2]
 simp only [List.set_cons_zero, List.append_assoc, List.cons_append, List.nil_append]
theorem fill_step {w wr w1 : World} {k n : Nat} {rs : List Rw} {v : Value} {xs : List Int} {ys : List Value} (hk : rs.length = k) (hkn : k < n) (hys : ys.length = n)
    (ho : Out w.heap.size wr w.heap.size n n (rs.map Rw.v ++ ys.drop k)) (hin : Inn w.heap.size wr.heap.size wr rs) (hb : Below w.heap.size w wr) (hm : Made wr w1 v xs) :
    ∃ g c, v = .slice (some ⟨g, 0, none⟩) xs.length c ∧ (∃ v0, w1.cell? ⟨w.heap.size, k, none⟩ = some v0) ∧ w1.frozen? ⟨w.heap.size, k, none⟩ = false ∧
     Out w.heap.size (w1.setCell ⟨w.heap.size, k, none⟩ (.slice (some ⟨g, 0, none⟩) xs.length c)) w.heap.size n n ((rs ++ [(⟨g, c, xs⟩ : Rw)]).map Rw.v ++ ys.drop (k + 1)) ∧
     Inn w.heap.size (w1.setCell ⟨w.heap.size, k, none⟩ (.slice (some ⟨g, 0, none⟩) xs.length c)).heap.size (w1.setCell ⟨w.heap.size, k, none⟩ (.slice (some ⟨g, 0, none⟩) xs.length c)) (rs ++ [(⟨g, c, xs⟩ : Rw)]) ∧
     Below w.heap.size w (w1.setCell ⟨w.heap.size, k, none⟩ (.slice (some ⟨g, 0, none⟩) xs.length c)) := by
 obtain ⟨g, c, rfl, l1, l2, o1, b1⟩ := hm
 have hs := hb.size
 have hG := own_lt ho
 have ho1 : Out w.heap.size w1 w.heap.size n n (rs.map Rw.v ++ ys.drop k) := own_block ho (b1.block _ hG.2)
 have hi1 := inn_push (inn_below hin b1 (Nat.le_refl _)) (owni_less o1 hs) l1 l2
 have R := World.ownsRow.stored ho1 k (.slice (some ⟨g, 0, none⟩) xs.length c)
 rw [set_step _ _ _ k (by simpa using hk) (by omega)] at R
 refine ⟨g, c, rfl, ?_, World.ownsRow.frozenAt ho1 k, ?_, ?_, (below_step hb b1).grown R.2 (Nat.le_trans hs b1.size) (by intro j hj; cases hj; exact Nat.le_refl _)⟩
 ·rw [World.ownsRow.cellAt ho1 k (by omega)]
  exact ⟨_, List.getElem?_eq_getElem (by have := ho1.1; omega)⟩
 ·have := R.1
  rw [List.map_append]
  exact this
 ·exact inn_mono (inn_out hi1 ho1 R.2) R.2.size
theorem fill_end {w wr : World} {n : Nat} {rs : List Rw} {xss : List (List Int)} {ys : List Value} (hx : rs.map Rw.xs = xss) (hn : xss.length = n) (hys : ys.length = n)
    (ho : Out w.heap.size wr w.heap.size n n (rs.map Rw.v ++ ys.drop n)) (hin : Inn w.heap.size wr.heap.size wr rs) (hb : Below w.heap.size w wr) : MadeM w wr (.slice (some ⟨w.heap.size, 0, none⟩) xss.length n) xss := by
 rw [List.drop_of_length_le (by omega), List.append_nil] at ho
 exact ⟨_, _, rfl, Nat.le_refl _, (own_lt ho).2, ⟨rs, hx, by rw [hn]; exact ho, (own_lt ho).2, hin⟩, hb⟩
theorem out_made (w : World) (n : Nat) (hn : n ≤ maxLen) : Out w.heap.size (w.alloc (.cells (madeCells #[.slice none 0 0] n) 79)) w.heap.size n n (madeCells #[.slice none 0 0] n).toList :=
 World.ownsRow_lit (base := w.heap.size) (e := 79) (size := 1) w (madeCells #[.slice none 0 0] n) n (Nat.le_refl _) hn (by simp [size_madeCells])
theorem made_zeroM (n : Nat) : (madeCells #[.int .i64 0] n).toList = (List.replicate n (0 : Int)).map (Value.int .i64) := by
 apply List.ext_getElem?
 intro i
 simp only [madeCells, Array.toList_map, Array.toList_range, List.getElem?_map, List.getElem?_replicate]
 by_cases h : i < n
 ·simp [h, Nat.mod_one]
 ·simp [h]
theorem owni_cap {B g cap : Nat} {w : World} {zs : List Int} (h : OwnI B w g cap zs) : zs.length ≤ cap ∧ cap ≤ maxLen := by
 rcases h.2 with ⟨h', _⟩ | ⟨g', cap', cur, h', hb', hgg, hc, hm, rest⟩
 ·simp at h'
 ·simp only [Value.slice.injEq, Option.some.injEq, Addr.mk.injEq, and_true, true_and] at h'
  obtain ⟨rfl, rfl⟩ := h'
  exact ⟨hc, hm⟩
theorem newRow_any (n : Nat) (w : World) (hn : n ≤ 16) : Calls Tryz.prog 197 #[.int .i64 n] w fun e w' => ∃ v, e = .returned v ∧ Made w w' v (List.replicate (n * 2) 0) := by
 have hmk := Go.run_make_row' (P := Tryz.prog) 222 2 (.int .i64 0) 8 Tryz.underlying222 Tryz.infoI rfl .i64 .i64 (n * 2) (by omega) (by omega)
 have e2 : ((n * 2 : Nat) : Int) = (n : Int) * 2 := by omega
 simp only [e2] at hmk
 have M := made_lit w (madeCells #[.int .i64 0] (n * 2)) (List.replicate (n * 2) 0) (made_zeroM _) (by unfold maxLen; simp; omega)
 rw [List.length_replicate] at M
 have HM : Hid _ := M
 clear M
 go_enter Tryz.func197, Tryz.ntmps197
 go_wp2
 go_ret
 exact ⟨_, rfl, HM.out⟩
theorem rowLines_any (a : Option Addr) (m n cap : Nat) (w : World) (hn : m ≤ 16) (he : n = m * 2) : Calls Tryz.prog 240 #[.slice a n cap] w fun e w' => e = .returned (.int .i64 m) ∧ w' = w := by
 subst he
 have e2 : Int.tdiv ((m : Int) * 2) 2 = m := by rw [Int.tdiv_eq_ediv_of_nonneg (by omega)]; omega
 go_enter Tryz.func240, Tryz.ntmps240
 go_wp2
 go_ret
 refine ⟨ret_int ?_, rfl⟩
 first | rfl | (simp; done) | omega | (simp; omega)
theorem cut_any (g n cap j : Nat) (w : World) (hj : j ≤ 16) (h : j * 2 + 2 ≤ cap) : Calls Tryz.prog 248 #[.slice (some ⟨g, 0, none⟩) n cap, .int .i64 j] w fun e w' => e = .returned (.slice (some ⟨g, j * 2, none⟩) 2 2) ∧ w' = w := by
 go_enter Tryz.func248, Tryz.ntmps248
 go_wp2
 go_ret
 refine ⟨?_, rfl⟩
 have e2 : j * 2 + 2 - j * 2 = 2 := by omega
 rw [e2]
 rfl
def pr (zs : List Int) (j : Nat) : List Int := [zs.getD (j * 2) 0, zs.getD (j * 2 + 1) 0]
def prs (zs : List Int) (n : Nat) : List (List Int) := (List.range n).map (pr zs)
theorem Tryz.sizeI : (Tryz.prog.info? 2).map (·.size) = some 1 := by kernel_rfl
theorem copied_two {B g cap : Nat} {w : World} {zs : List Int} (h : OwnI B w g cap zs) (o : Nat) (x y : Int) :
    OwnI B (w.setCells g o [.int .i64 x, .int .i64 y]) g cap ((zs.set o x).set (o + 1) y) ∧ w.grownBy (w.setCells g o [.int .i64 x, .int .i64 y]) (some g) := by
 have R1 := World.ownsRow.stored h o (.int .i64 x)
 have R2 := World.ownsRow.stored R1.1 (o + 1) (.int .i64 y)
 refine ⟨?_, grown_trans R1.2 R2.2⟩
 unfold OwnI
 rw [List.length_set, List.length_set, List.map_set, List.map_set]
 exact R2.1
theorem owni_at {B g cap : Nat} {w : World} {zs : List Int} (h : OwnI B w g cap zs) (i : Nat) (hi : i < zs.length) : w.cell? ⟨g, i, none⟩ = some (.int .i64 (zs.getD i 0)) := by
 rw [World.ownsRow.cellAt h i (by omega)]
 simp [List.getD_eq_getElem?_getD, hi]
theorem run_copy_two (w : World) (ty : TypeId) (b o : Nat) (B cap : Nat) (zs : List Int) (a : Addr) (dc sc : Nat) (x y : Int) (h : OwnI B w b cap zs) (ho : o + 2 ≤ zs.length)
    (h0 : w.cell? a = some (.int .i64 x)) (h1 : w.cell? (a.add 1) = some (.int .i64 y)) :
    (Builtin.copy_ #[79, 79] ty #[.slice (some ⟨b, o, none⟩) 2 dc, .slice (some a) 2 sc]).run Tryz.prog w = .ok (.int .i64 2) (w.setCells b o [.int .i64 x, .int .i64 y]) := by
 refine run_copy_cells (P := Tryz.prog) w 79 79 ty 2 b o 2 dc a 2 sc [.int .i64 x, .int .i64 y] Tryz.underlying79 Tryz.sizeI rfl ?_ ?_ ?_ ?_
 ·intro j v hj
  match j, hj with
  | 0, hj => simp at hj; subst hj; rw [show a.add 0 = a from by simp [Addr.add]]; exact h0
  | 1, hj => simp at hj; subst hj; exact h1
 ·intro j hj
  rw [owni_at h (o + j) (by simp at hj; omega)]
  rfl
 ·intro j _
  exact World.ownsRow.frozenAt h (o + j)
 ·intro v hv
  simp at hv
  rcases hv with rfl | rfl <;> rfl
theorem lineAt_any (B g cap j : Nat) (zs : List Int) (w : World) (h : OwnI B w g cap zs) (hj : j * 2 + 2 ≤ zs.length) (hz : zs.length ≤ 32) :
    Calls Tryz.prog 241 #[.slice (some ⟨g, 0, none⟩) zs.length cap, .int .i64 j] w fun e w' => ∃ v, e = .returned v ∧ Made w w' v (pr zs j) := by
 have hmk := Go.run_make_row' (P := Tryz.prog) 79 2 (.int .i64 0) 8 Tryz.underlying79 Tryz.infoI rfl .i64 .i64 2 (by omega) (by omega)
 have e2 : ((2 : Nat) : Int) = 2 := rfl
 simp only [e2] at hmk
 have hc := (owni_cap h).1
 have O := owni_lit w (madeCells #[.int .i64 0] 2) [0, 0] (made_zeroM 2) (by unfold maxLen; simp)
 have h' : OwnI B (w.alloc (.cells (madeCells #[.int .i64 0] 2) 2)) g cap zs := World.ownsRow.alloc h _
 have C0 := owni_at h' (j * 2) (by omega)
 have C1 := owni_at h' (j * 2 + 1) (by omega)
 unfold pr
 generalize zs.getD (j * 2) 0 = x at C0 ⊢
 generalize zs.getD (j * 2 + 1) 0 = y at C1 ⊢
 have CP := run_copy_two _ 3 w.heap.size 0 w.heap.size 2 [0, 0] ⟨g, j * 2, none⟩ 2 2 _ _ O (by simp) C0 C1
 have HO : Hid _ := copied_two O 0 x y
 clear h' C0 C1 O
 generalize hW : (w.alloc (.cells (madeCells #[.int .i64 0] 2) 2)).setCells w.heap.size 0 [.int .i64 x, .int .i64 y] = W at CP HO
 clear hW
 go_enter Tryz.func241, Tryz.ntmps241
 go_wp2_with (go_at_call 248; refine (cut_any _ _ _ _ _ (by omega) (by omega)).mono ?_; rintro e w' ⟨rfl, rfl⟩)
 go_ret
 refine ⟨_, rfl, w.heap.size, 2, rfl, Nat.le_refl _, ?_, HO.out.1, ?_⟩
 ·exact (owni_lt HO.out.1).2
 ·exact ((Below.refl _ _).alloc (Nat.le_refl _) _).grown HO.out.2 (by simp) (by intro k hk; cases hk; exact Nat.le_refl _)
theorem prs_push {zs : List Int} {rs : List Rw} {k g c : Nat} (h : rs.map Rw.xs = prs zs k) : (rs ++ [(⟨g, c, pr zs k⟩ : Rw)]).map Rw.xs = prs zs (k + 1) := by
 rw [List.map_append, h]
 simp [prs, List.range_succ]
theorem prs_len (zs : List Int) (n : Nat) : (prs zs n).length = n := by simp [prs]
theorem memory_any (B g cap n : Nat) (zs : List Int) (w : World) (h : OwnI B w g cap zs) (hz : zs.length = n * 2) (hn : n ≤ 16) :
    Calls Tryz.prog 198 #[.slice (some ⟨g, 0, none⟩) zs.length cap] w fun e w' => ∃ v, e = .returned v ∧ MadeM w w' v (prs zs n) := by
 have hmk := Go.run_make_row' (P := Tryz.prog) 24 79 (.slice none 0 0) 24 Tryz.underlying24 Tryz.infoS rfl .i64 .i64 n (by omega) (by omega)
 have HZ : Hid (zs.length = n * 2) := hz
 clear hz
 go_enter Tryz.func198, Tryz.ntmps198
 go_wp2_with fail
 refine (rowLines_any _ n _ _ _ hn HZ.out).mono ?_
 rintro e w1 ⟨rfl, hw1⟩
 rw [hw1]
 clear hw1 w1
 go_wp2
 go_loopw [10] (fun i wr => ∃ k : Nat, k ≤ n ∧ i = .int .i64 k ∧ ∃ rs : List Rw, rs.map Rw.xs = prs zs k ∧ Out w.heap.size wr w.heap.size n n (rs.map Rw.v ++ (madeCells #[.slice none 0 0] n).toList.drop k) ∧ Inn w.heap.size wr.heap.size wr rs ∧ Below w.heap.size w wr)
  (fun i _ => n - (intOf i).toNat)
 case atStart => exact ⟨0, Nat.zero_le _, rfl, [], rfl, by simpa using out_made w n (by unfold maxLen; omega), inn_nil _ _ _, (Below.refl _ _).alloc (Nat.le_refl _) _⟩
 case round =>
  obtain ⟨k, hk, rfl, rs, hrs, ho, hi, hb⟩ := hrel
  by_cases hlt : k < n
  ·have hlt' : (k : Int) < (n : Int) := by omega
   have hkl : rs.length = k := by have := congrArg List.length hrs; simpa [prs_len] using this
   have FS : Hid (∀ w1 v, Made wr w1 v (pr zs k) → _) := fun w1 v hm => fill_step (v := v) (w1 := w1) hkl hlt (by simp [size_madeCells]) ho hi hb hm
   have HP : Hid (∀ g c, _) := fun g c => prs_push (g := g) (c := c) hrs
   have HR : Hid (OwnI B wr g cap zs) := owni_below h hb (owni_lt h).2
   clear h ho hi hb hrs hmk hkl
   go_wp2_with (go_at_call 241; refine (lineAt_any _ _ _ _ _ _ HR.out (by have := HZ.out; omega) (by have := HZ.out; omega)).mono ?_; rintro e w1 ⟨v, rfl, mm⟩; obtain ⟨g, c, rfl, ⟨v0, hv0⟩, hfz, F1, F2, F3⟩ := FS.out _ _ mm; have HF1 : Hid _ := F1; have HF2 : Hid _ := F2; have HF3 : Hid _ := F3; clear F1 F2 F3 mm)
   go_roundw
   case rel => exact ⟨k + 1, by omega, by go_num, _, HP.out g c, HF1.out, HF2.out, HF3.out⟩
   case measure => simp [intOf]; omega
  ·have hkl : k = n := by omega
   subst hkl
   have FE := fill_end hrs (prs_len _ _) (by simp [size_madeCells]) ho hi hb
   rw [prs_len] at FE
   clear ho hi hb
   go_wp2
   go_ret
   exact ⟨_, rfl, FE⟩
end Go.Proofs.YthnfkacboijneaaGreatDoor
