
/- The contracts of the program's own row of words: a line copied of it, all lines copied of it. Conditions: at most 16 lines. -/
import Derived.Test.YtcnnojfkpkmdmaaMems4
namespace Go.Proofs.Ytcnnojfkpkmdmaa
open Go.ChangeShapes Go.WideShapes Go.ChangeAt Go.RowKit

def pr (zs : List Int) (j : Nat) : List Int := [zs.getD (j * 2) 0, zs.getD (j * 2 + 1) 0]
def prs (zs : List Int) (n : Nat) : List (List Int) := (List.range n).map (pr zs)

theorem Try.sizeI : (Try.prog.info? 2).map (·.size) = some 1 := by kernel_rfl

theorem copied_two {B g cap : Nat} {w : World} {zs : List Int} (h : OwnI B w g cap zs) (o : Nat) (x y : Int) :
    OwnI B (w.setCells g o [.int .i64 x, .int .i64 y]) g cap ((zs.set o x).set (o + 1) y) ∧ w.grownBy (w.setCells g o [.int .i64 x, .int .i64 y]) (some g) := by
  have R1 := World.ownsRow.stored h o (.int .i64 x)
  have R2 := World.ownsRow.stored R1.1 (o + 1) (.int .i64 y)
  refine ⟨?_, grown_trans R1.2 R2.2⟩
  unfold OwnI
  rw [List.length_set, List.length_set, List.map_set, List.map_set]
  exact R2.1

theorem owni_at {B g cap : Nat} {w : World} {zs : List Int} (h : OwnI B w g cap zs) (i : Nat) (hi : i < zs.length) : w.cell? ⟨g, i, none⟩ = some (.int .i64 (zs.getD i 0)) := by
  rw [World.ownsRow.cellAt h i (by omega)]
  simp [List.getD_eq_getElem?_getD, hi]

theorem run_copy_two (w : World) (ty : TypeId) (b o : Nat) (B cap : Nat) (zs : List Int) (a : Addr) (dc sc : Nat) (x y : Int) (h : OwnI B w b cap zs) (ho : o + 2 ≤ zs.length)
    (h0 : w.cell? a = some (.int .i64 x)) (h1 : w.cell? (a.add 1) = some (.int .i64 y)) :
    (Builtin.copy_ #[38, 38] ty #[.slice (some ⟨b, o, none⟩) 2 dc, .slice (some a) 2 sc]).run Try.prog w = .ok (.int .i64 2) (w.setCells b o [.int .i64 x, .int .i64 y]) := by
  refine run_copy_cells (P := Try.prog) w 38 38 ty 2 b o 2 dc a 2 sc [.int .i64 x, .int .i64 y] Try.underlying38 Try.sizeI rfl ?_ ?_ ?_ ?_
  · intro j v hj
    match j, hj with
    | 0, hj => simp at hj; subst hj; rw [show a.add 0 = a from by simp [Addr.add]]; exact h0
    | 1, hj => simp at hj; subst hj; exact h1
  · intro j hj
    rw [owni_at h (o + j) (by simp at hj; omega)]
    rfl
  · intro j _
    exact World.ownsRow.frozenAt h (o + j)
  · intro v hv
    simp at hv
    rcases hv with rfl | rfl <;> rfl

set_option maxHeartbeats 1000000 in
theorem lineAt_any (B g cap j : Nat) (zs : List Int) (w : World) (h : OwnI B w g cap zs) (hj : j * 2 + 2 ≤ zs.length) (hz : zs.length ≤ 32) :
    Calls Try.prog 69 #[.slice (some ⟨g, 0, none⟩) zs.length cap, .int .i64 j] w fun e w' => ∃ v, e = .returned v ∧ Made w w' v (pr zs j) := by
  have hmk := Go.run_make_row' (P := Try.prog) 38 2 (.int .i64 0) 8 Try.underlying38 Try.infoI rfl .i64 .i64 2 (by omega) (by omega)
  have e2 : ((2 : Nat) : Int) = 2 := rfl
  simp only [e2] at hmk
  have hc := (owni_cap h).1
  have O := owni_lit w (madeCells #[.int .i64 0] 2) [0, 0] (made_zeroM 2) (by unfold maxLen; simp)
  have h' : OwnI B (w.alloc (.cells (madeCells #[.int .i64 0] 2) 2)) g cap zs := World.ownsRow.alloc h _
  have C0 := owni_at h' (j * 2) (by omega)
  have C1 := owni_at h' (j * 2 + 1) (by omega)
  unfold pr
  generalize zs.getD (j * 2) 0 = x at C0 ⊢
  generalize zs.getD (j * 2 + 1) 0 = y at C1 ⊢
  have CP := run_copy_two _ 3 w.heap.size 0 w.heap.size 2 [0, 0] ⟨g, j * 2, none⟩ 2 2 _ _ O (by simp) C0 C1
  have HO : Hid _ := copied_two O 0 x y
  clear h' C0 C1 O
  generalize hW : (w.alloc (.cells (madeCells #[.int .i64 0] 2) 2)).setCells w.heap.size 0 [.int .i64 x, .int .i64 y] = W at CP HO
  clear hW
  go_enter Try.func69, Try.ntmps69
  go_wp2_with (go_at_call 63; refine (cut_any _ _ _ _ _ (by omega) (by omega)).mono ?_; rintro e w' ⟨rfl, rfl⟩)
  go_ret
  refine ⟨_, rfl, w.heap.size, 2, rfl, Nat.le_refl _, ?_, HO.out.1, ?_⟩
  · exact (owni_lt HO.out.1).2
  · exact ((Below.refl _ _).alloc (Nat.le_refl _) _).grown HO.out.2 (by simp) (by intro k hk; cases hk; exact Nat.le_refl _)

theorem prs_push {zs : List Int} {rs : List Rw} {k g c : Nat} (h : rs.map Rw.xs = prs zs k) : (rs ++ [(⟨g, c, pr zs k⟩ : Rw)]).map Rw.xs = prs zs (k + 1) := by
  rw [List.map_append, h]
  simp [prs, List.range_succ]
theorem prs_len (zs : List Int) (n : Nat) : (prs zs n).length = n := by simp [prs]

set_option maxHeartbeats 1000000 in
theorem memory_any (B g cap n : Nat) (zs : List Int) (w : World) (h : OwnI B w g cap zs) (hz : zs.length = n * 2) (hn : n ≤ 16) :
    Calls Try.prog 55 #[.slice (some ⟨g, 0, none⟩) zs.length cap] w fun e w' => ∃ v, e = .returned v ∧ MadeM w w' v (prs zs n) := by
  have hmk := Go.run_make_row' (P := Try.prog) 22 38 (.slice none 0 0) 24 Try.underlying22 Try.infoS rfl .i64 .i64 n (by omega) (by omega)
  have HZ : Hid (zs.length = n * 2) := hz
  clear hz
  go_enter Try.func55, Try.ntmps55
  go_wp2_with fail
  refine (rowLines_any _ n _ _ _ hn HZ.out).mono ?_
  rintro e w1 ⟨rfl, hw1⟩
  rw [hw1]
  clear hw1 w1
  go_wp2
  go_loopw [10] (fun i wr => ∃ k : Nat, k ≤ n ∧ i = .int .i64 k ∧ ∃ rs : List Rw, rs.map Rw.xs = prs zs k ∧ Out w.heap.size wr w.heap.size n n (rs.map Rw.v ++ (madeCells #[.slice none 0 0] n).toList.drop k) ∧ Inn w.heap.size wr.heap.size wr rs ∧ Below w.heap.size w wr)
    (fun i _ => n - (intOf i).toNat)
  case atStart => exact ⟨0, Nat.zero_le _, rfl, [], rfl, by simpa using out_made w n (by unfold maxLen; omega), inn_nil _ _ _, (Below.refl _ _).alloc (Nat.le_refl _) _⟩
  case round =>
    obtain ⟨k, hk, rfl, rs, hrs, ho, hi, hb⟩ := hrel
    by_cases hlt : k < n
    · have hlt' : (k : Int) < (n : Int) := by omega
      have hkl : rs.length = k := by have := congrArg List.length hrs; simpa [prs_len] using this
      have FS : Hid (∀ w1 v, Made wr w1 v (pr zs k) → _) := fun w1 v hm => fill_step (v := v) (w1 := w1) hkl hlt (by simp [size_madeCells]) ho hi hb hm
      have HP : Hid (∀ g c, _) := fun g c => prs_push (g := g) (c := c) hrs
      have HR : Hid (OwnI B wr g cap zs) := owni_below h hb (owni_lt h).2
      clear h ho hi hb hrs hmk hkl
      go_wp2_with (go_at_call 69; refine (lineAt_any _ _ _ _ _ _ HR.out (by have := HZ.out; omega) (by have := HZ.out; omega)).mono ?_; rintro e w1 ⟨v, rfl, mm⟩; obtain ⟨g, c, rfl, ⟨v0, hv0⟩, hfz, F1, F2, F3⟩ := FS.out _ _ mm; have HF1 : Hid _ := F1; have HF2 : Hid _ := F2; have HF3 : Hid _ := F3; clear F1 F2 F3 mm)
      go_roundw
      case rel => exact ⟨k + 1, by omega, by go_num, _, HP.out g c, HF1.out, HF2.out, HF3.out⟩
      case measure => simp [intOf]; omega
    · have hkl : k = n := by omega
      subst hkl
      have FE := fill_end hrs (prs_len _ _) (by simp [size_madeCells]) ho hi hb
      rw [prs_len] at FE
      clear ho hi hb
      go_wp2
      go_ret
      exact ⟨_, rfl, FE⟩

end Go.Proofs.Ytcnnojfkpkmdmaa
