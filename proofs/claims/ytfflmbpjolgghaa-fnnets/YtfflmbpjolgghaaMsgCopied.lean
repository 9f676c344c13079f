/- One letter, copied, by the program. Conditions: lists of at most 2^20 numbers. -/
import Derived.Test.YtfflmbpjolgghaaMsgCopy
namespace Go.Proofs.Ytfflmbpjolgghaa
open Go.ChangeShapes Go.WideShapes Go.ChangeAt Go.RowKit
set_option linter.unusedVariables false

set_option maxHeartbeats 4000000 in
theorem msgCopied_any (f0 f1 f2 f3 f4 f6 : Int) (d : List Int) (a : Option Addr) (cap : Nat) (w : World) (j0 : In64 f0) (j1 : In64 f1) (j2 : In64 f2) (j3 : In64 f3) (j4 : In64 f4) (j6 : In64 f6) (h : SlRd intR w a d) (hm : d.length ≤ 1048576) :
    Calls Try.prog 70 #[.agg #[.int .i64 f0, .int .i64 f1, .int .i64 f2, .int .i64 f3, .int .i64 f4, .slice a d.length cap, .int .i64 f6]] w fun e w' => ∃ av cv, e = .returned (.agg #[.int .i64 f0, .int .i64 f1, .int .i64 f2, .int .i64 f3, .int .i64 f4, .slice av d.length cv, .int .i64 f6]) ∧ MadeR msgR w w' [.int .i64 f0, .int .i64 f1, .int .i64 f2, .int .i64 f3, .int .i64 f4, .slice av d.length cv, .int .i64 f6] (f0, f1, f2, f3, f4, d, f6) := by
  cases a with
  | some ad =>
    obtain ⟨i0, hi, hz0, hz1, hz2⟩ := info_parts Try.infoI
    have B0 := below_step (box_below w (.cells #[.int .i64 f0, .int .i64 f1, .int .i64 f2, .int .i64 f3, .int .i64 f4, .slice (some ad) d.length cap, .int .i64 f6] 27)) (box_below _ (.cells #[.int .i64 0, .int .i64 0, .int .i64 0, .int .i64 0, .int .i64 0, .slice none 0 0, .int .i64 0] 27))
    have X0 := heap_on (.cells #[.int .i64 0, .int .i64 0, .int .i64 0, .int .i64 0, .int .i64 0, .slice none 0 0, .int .i64 0] 27) (heap_at w (.cells #[.int .i64 f0, .int .i64 f1, .int .i64 f2, .int .i64 f3, .int .i64 f4, .slice (some ad) d.length cap, .int .i64 f6] 27))
    have X1 := heap_at (w.alloc (.cells #[.int .i64 f0, .int .i64 f1, .int .i64 f2, .int .i64 f3, .int .i64 f4, .slice (some ad) d.length cap, .int .i64 f6] 27)) (.cells #[.int .i64 0, .int .i64 0, .int .i64 0, .int .i64 0, .int .i64 0, .slice none 0 0, .int .i64 0] 27)
    rw [alloc_len] at X1
    have sz : ((w.alloc (.cells #[.int .i64 f0, .int .i64 f1, .int .i64 f2, .int .i64 f3, .int .i64 f4, .slice (some ad) d.length cap, .int .i64 f6] 27)).alloc (.cells #[.int .i64 0, .int .i64 0, .int .i64 0, .int .i64 0, .int .i64 0, .slice none 0 0, .int .i64 0] 27)).heap.size = w.heap.size + 1 + 1 := by simp
    have hown : (((w.alloc (.cells #[.int .i64 f0, .int .i64 f1, .int .i64 f2, .int .i64 f3, .int .i64 f4, .slice (some ad) d.length cap, .int .i64 f6] 27)).alloc (.cells #[.int .i64 0, .int .i64 0, .int .i64 0, .int .i64 0, .int .i64 0, .slice none 0 0, .int .i64 0] 27)).alloc (.cells #[] 2)).ownsRow ((w.alloc (.cells #[.int .i64 f0, .int .i64 f1, .int .i64 f2, .int .i64 f3, .int .i64 f4, .slice (some ad) d.length cap, .int .i64 f6] 27)).alloc (.cells #[.int .i64 0, .int .i64 0, .int .i64 0, .int .i64 0, .int .i64 0, .slice none 0 0, .int .i64 0] 27)).heap.size 2 1 (.slice (some ⟨((w.alloc (.cells #[.int .i64 f0, .int .i64 f1, .int .i64 f2, .int .i64 f3, .int .i64 f4, .slice (some ad) d.length cap, .int .i64 f6] 27)).alloc (.cells #[.int .i64 0, .int .i64 0, .int .i64 0, .int .i64 0, .int .i64 0, .slice none 0 0, .int .i64 0] 27)).heap.size, 0, none⟩) 0 0) 0 [] := World.ownsRow_lit _ #[] 0 (Nat.le_refl _) (Nat.zero_le _) rfl
    rw [sz] at hown
    have HI : Hid (In64 f0 ∧ In64 f1 ∧ In64 f2 ∧ In64 f3 ∧ In64 f4 ∧ In64 f6) := ⟨j0, j1, j2, j3, j4, j6⟩
    have HS : Hid (Reads w (some ad) d ∧ ∀ x ∈ d, In64 x) := ⟨reads_of h, in64_of h⟩
    have HX : Hid _ := And.intro X0 X1
    clear j0 j1 j2 j3 j4 j6 X0 X1 h
    go_enter Try.func70, Try.ntmps70
    go_wp2_with (at_builtin; refine wpList_append_own _ rfl _ _ 25 rfl (w.heap.size + 1 + 1) 2 i0 (.int .i64 0) 1 8 Try.underlying25 hi hz0 hz1 hz2 rfl (by decide) _ _ _ rfl hown ad d.length cap (d.map (Value.int .i64)) rfl (by simp) ?c1 ?c2 ?c3 ?c4 ?c5 ?_)
    case c1 =>
      intro j u hj
      obtain ⟨hjl, rfl⟩ := List.getElem?_eq_some_iff.1 hj
      simp at hjl
      rcases HS.out.1 with rfl | ⟨b, off, ha, hc⟩
      · simp at hjl
      simp only [Option.some.injEq] at ha
      subst ha
      have g0 := hc j hjl
      have g1 := cell_kp3 w (.cells #[.int .i64 f0, .int .i64 f1, .int .i64 f2, .int .i64 f3, .int .i64 f4, .slice (some ⟨b, off, none⟩) d.length cap, .int .i64 f6] 27) (.cells #[.int .i64 0, .int .i64 0, .int .i64 0, .int .i64 0, .int .i64 0, .slice none 0 0, .int .i64 0] 27) (.cells #[] 2) g0
      rw [show (⟨b, off, none⟩ : Addr).add j = ⟨b, off + j, none⟩ from by simp [Addr.add], g1]
      simp [List.getD_eq_getElem?_getD, hjl]
    case c2 => intro u hu; simp at hu; obtain ⟨x, _, rfl⟩ := hu; rfl
    case c3 => unfold maxLen; omega
    case c4 => omega
    case c5 => simp
    · intro v' w1 hown' hgrow hnil
      have hv : v' ≠ .slice none 0 0 := hnil
      have hown'' : w1.ownsRow ((w.alloc (.cells #[.int .i64 f0, .int .i64 f1, .int .i64 f2, .int .i64 f3, .int .i64 f4, .slice (some ad) d.length cap, .int .i64 f6] 27)).alloc (.cells #[.int .i64 0, .int .i64 0, .int .i64 0, .int .i64 0, .int .i64 0, .slice none 0 0, .int .i64 0] 27)).heap.size 2 1 v' d.length (d.map (Value.int .i64)) := by rw [sz]; simpa using hown'
      have HO := madeR_ints (made_app (w := (w.alloc (.cells #[.int .i64 f0, .int .i64 f1, .int .i64 f2, .int .i64 f3, .int .i64 f4, .slice (some ad) d.length cap, .int .i64 f6] 27)).alloc (.cells #[.int .i64 0, .int .i64 0, .int .i64 0, .int .i64 0, .int .i64 0, .slice none 0 0, .int .i64 0] 27)) hown'' (by rw [sz]; exact hgrow) hv) HS.out.2
      obtain ⟨av, cv, rfl⟩ := slown_val HO.1
      obtain ⟨X0, X1⟩ := HX.out
      have B1 := below_step B0 HO.2
      replace X0 := row_keep HO.2 X0
      replace X1 := row_keep HO.2 X1
      obtain ⟨y0, y1, y2, y3, y4, y5, y6⟩ := cells_7 X0
      obtain ⟨u0, u1, u2, u3, u4, u5, u6⟩ := froz_7 X0
      obtain ⟨z0, z1, z2, z3, z4, z5, z6⟩ := cells_7 X1
      obtain ⟨g0, g1, g2, g3, g4, g5, g6⟩ := froz_7 X1
      have HOO : Hid (intsR.own w1 (rng ((w.alloc (.cells #[.int .i64 f0, .int .i64 f1, .int .i64 f2, .int .i64 f3, .int .i64 f4, .slice (some ad) d.length cap, .int .i64 f6] 27)).alloc (.cells #[.int .i64 0, .int .i64 0, .int .i64 0, .int .i64 0, .int .i64 0, .slice none 0 0, .int .i64 0] 27)).heap.size w1.heap.size) [.slice av d.length cv] d) := HO.1
      have HX2 : Hid _ := And.intro X0 X1
      clear hown' hgrow hnil hown hown'' HO X0 X1 HX hv
      go_wp2
      obtain ⟨X0, X1⟩ := HX2.out
      have Y1 := put_7 (y0 := .int .i64 f0) (y1 := .int .i64 f1) (y2 := .int .i64 f2) (y3 := .int .i64 f3) (y4 := .int .i64 f4) (y5 := .slice av d.length cv) (y6 := .int .i64 f6) (heap_setC (g := w.heap.size) (o := 5) (v := .slice av d.length cv) X1 (by omega))
      obtain ⟨r0, r1, r2, r3, r4, r5, r6⟩ := cells_7 Y1
      refine bodyPost_ret (v := .agg #[.int .i64 f0, .int .i64 f1, .int .i64 f2, .int .i64 f3, .int .i64 f4, .slice av d.length cv, .int .i64 f6]) (by simp [results, Try.results70, go_sem, r0, r1, r2, r3, r4, r5, r6]) rfl ⟨av, cv, rfl, own_msg HI.out.1 HI.out.2.1 HI.out.2.2.1 HI.out.2.2.2.1 HI.out.2.2.2.2.1 HI.out.2.2.2.2.2 ?_, ?_⟩
      · refine intsR.own_mono (own_setC (own_setC (own_setC (own_setC (own_setC (own_setC (own_setC (own_setC (HOO.out) (fun h => by have := h.1; omega)) (fun h => by have := h.1; omega)) (fun h => by have := h.1; omega)) (fun h => by have := h.1; omega)) (fun h => by have := h.1; omega)) (fun h => by have := h.1; omega)) (fun h => by have := h.1; omega)) (fun h => by have := h.1; omega)) ?_
        exact rng_sub (by omega) (by simp)
      · exact below_setC (below_setC (below_setC (below_setC (below_setC (below_setC (below_setC (below_setC (B1) (by omega)) (by omega)) (by omega)) (by omega)) (by omega)) (by omega)) (by omega)) (by omega)
  | none =>
    obtain rfl : d = [] := by
      rcases h with h | ⟨b, off, rows, ha, _⟩
      · exact h
      · cases ha
    rw [show ([] : List Int).length = 0 from rfl]
    obtain ⟨i0, hi, hz0, hz1, hz2⟩ := info_parts Try.infoI
    have B0 := below_step (box_below w (.cells #[.int .i64 f0, .int .i64 f1, .int .i64 f2, .int .i64 f3, .int .i64 f4, .slice none 0 cap, .int .i64 f6] 27)) (box_below _ (.cells #[.int .i64 0, .int .i64 0, .int .i64 0, .int .i64 0, .int .i64 0, .slice none 0 0, .int .i64 0] 27))
    have X0 := heap_on (.cells #[.int .i64 0, .int .i64 0, .int .i64 0, .int .i64 0, .int .i64 0, .slice none 0 0, .int .i64 0] 27) (heap_at w (.cells #[.int .i64 f0, .int .i64 f1, .int .i64 f2, .int .i64 f3, .int .i64 f4, .slice none 0 cap, .int .i64 f6] 27))
    have X1 := heap_at (w.alloc (.cells #[.int .i64 f0, .int .i64 f1, .int .i64 f2, .int .i64 f3, .int .i64 f4, .slice none 0 cap, .int .i64 f6] 27)) (.cells #[.int .i64 0, .int .i64 0, .int .i64 0, .int .i64 0, .int .i64 0, .slice none 0 0, .int .i64 0] 27)
    rw [alloc_len] at X1
    have sz : ((w.alloc (.cells #[.int .i64 f0, .int .i64 f1, .int .i64 f2, .int .i64 f3, .int .i64 f4, .slice none 0 cap, .int .i64 f6] 27)).alloc (.cells #[.int .i64 0, .int .i64 0, .int .i64 0, .int .i64 0, .int .i64 0, .slice none 0 0, .int .i64 0] 27)).heap.size = w.heap.size + 1 + 1 := by simp
    have hown : (((w.alloc (.cells #[.int .i64 f0, .int .i64 f1, .int .i64 f2, .int .i64 f3, .int .i64 f4, .slice none 0 cap, .int .i64 f6] 27)).alloc (.cells #[.int .i64 0, .int .i64 0, .int .i64 0, .int .i64 0, .int .i64 0, .slice none 0 0, .int .i64 0] 27)).alloc (.cells #[] 2)).ownsRow ((w.alloc (.cells #[.int .i64 f0, .int .i64 f1, .int .i64 f2, .int .i64 f3, .int .i64 f4, .slice none 0 cap, .int .i64 f6] 27)).alloc (.cells #[.int .i64 0, .int .i64 0, .int .i64 0, .int .i64 0, .int .i64 0, .slice none 0 0, .int .i64 0] 27)).heap.size 2 1 (.slice (some ⟨((w.alloc (.cells #[.int .i64 f0, .int .i64 f1, .int .i64 f2, .int .i64 f3, .int .i64 f4, .slice none 0 cap, .int .i64 f6] 27)).alloc (.cells #[.int .i64 0, .int .i64 0, .int .i64 0, .int .i64 0, .int .i64 0, .slice none 0 0, .int .i64 0] 27)).heap.size, 0, none⟩) 0 0) 0 [] := World.ownsRow_lit _ #[] 0 (Nat.le_refl _) (Nat.zero_le _) rfl
    rw [sz] at hown
    have HI : Hid (In64 f0 ∧ In64 f1 ∧ In64 f2 ∧ In64 f3 ∧ In64 f4 ∧ In64 f6) := ⟨j0, j1, j2, j3, j4, j6⟩
    have M := made_nothing ((w.alloc (.cells #[.int .i64 f0, .int .i64 f1, .int .i64 f2, .int .i64 f3, .int .i64 f4, .slice none 0 cap, .int .i64 f6] 27)).alloc (.cells #[.int .i64 0, .int .i64 0, .int .i64 0, .int .i64 0, .int .i64 0, .slice none 0 0, .int .i64 0] 27))
    rw [sz] at M
    have HM : Hid _ := M
    have HX : Hid _ := And.intro X0 X1
    clear j0 j1 j2 j3 j4 j6 M X0 X1
    go_enter Try.func70, Try.ntmps70
    go_wp2_with (at_builtin; refine wpList_append_zero rfl _ _ 25 rfl (w.heap.size + 1 + 1) 2 i0 1 Try.underlying25 hi cap _ _ _ rfl hown rfl ?_)
    have N := made_nothing ((w.alloc (.cells #[.int .i64 f0, .int .i64 f1, .int .i64 f2, .int .i64 f3, .int .i64 f4, .slice (some ⟨w.heap.size + 1 + 1, 0, none⟩) 0 0, .int .i64 f6] 27)).alloc (.cells #[.int .i64 f0, .int .i64 f1, .int .i64 f2, .int .i64 f3, .int .i64 f4, .slice (some ⟨w.heap.size + 1 + 1, 0, none⟩) 0 0, .int .i64 f6] 27))
    have sz2 : ((w.alloc (.cells #[.int .i64 f0, .int .i64 f1, .int .i64 f2, .int .i64 f3, .int .i64 f4, .slice (some ⟨w.heap.size + 1 + 1, 0, none⟩) 0 0, .int .i64 f6] 27)).alloc (.cells #[.int .i64 f0, .int .i64 f1, .int .i64 f2, .int .i64 f3, .int .i64 f4, .slice (some ⟨w.heap.size + 1 + 1, 0, none⟩) 0 0, .int .i64 f6] 27)).heap.size = w.heap.size + 1 + 1 := by simp
    rw [sz2] at N
    refine bodyPost_ret (v := .agg #[.int .i64 f0, .int .i64 f1, .int .i64 f2, .int .i64 f3, .int .i64 f4, .slice (some ⟨w.heap.size + 1 + 1, 0, none⟩) 0 0, .int .i64 f6]) (by simp [results, Try.results70, go_sem]) rfl ⟨_, _, rfl, own_msg HI.out.1 HI.out.2.1 HI.out.2.2.1 HI.out.2.2.2.1 HI.out.2.2.2.2.1 HI.out.2.2.2.2.2 (intsR.own_mono N.1 (rng_sub (by rw [sz2]; omega) (Nat.le_refl _))), below_step (below_step (box_below w _) (box_below _ _)) N.2⟩

end Go.Proofs.Ytfflmbpjolgghaa
