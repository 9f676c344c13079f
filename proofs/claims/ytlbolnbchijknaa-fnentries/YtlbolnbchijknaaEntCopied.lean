/- One entry of the book, copied, by the program. Conditions: lists of at most 2^20 numbers. -/
import Derived.Test.YtlbolnbchijknaaEntries
import Derived.Test.YtlbolnbchijknaaCopyInts
namespace Go.Proofs.Ytlbolnbchijknaa
open Go.ChangeShapes Go.WideShapes Go.ChangeAt Go.RowKit
set_option linter.unusedVariables false

set_option maxHeartbeats 4000000 in
theorem entCopied_any (f0 f1 f3 f4 f5 f6 : Int) (f2 : Bool) (d : List Int) (a : Option Addr) (cap : Nat) (w : World) (j0 : In64 f0) (j1 : In64 f1) (j3 : In64 f3) (j4 : In64 f4) (j5 : In64 f5) (j6 : In64 f6) (h : SlRd intR w a d) (hm : d.length ≤ 1048576) :
    Calls Try.prog 34 #[.agg #[.int .i64 f0, .int .i64 f1, .bool f2, .int .i64 f3, .int .i64 f4, .int .i64 f5, .int .i64 f6, .slice a d.length cap]] w fun e w' => ∃ av cv, e = .returned (.agg #[.int .i64 f0, .int .i64 f1, .bool f2, .int .i64 f3, .int .i64 f4, .int .i64 f5, .int .i64 f6, .slice av d.length cv]) ∧ MadeR entR w w' [.int .i64 f0, .int .i64 f1, .bool f2, .int .i64 f3, .int .i64 f4, .int .i64 f5, .int .i64 f6, .slice av d.length cv] (f0, f1, f2, f3, f4, f5, f6, d) := by
  cases a with
  | some ad =>
    obtain ⟨i0, hi, hz0, hz1, hz2⟩ := info_parts Try.infoI
    have B0 := below_step (box_below w (.cells #[.int .i64 f0, .int .i64 f1, .bool f2, .int .i64 f3, .int .i64 f4, .int .i64 f5, .int .i64 f6, .slice (some ad) d.length cap] 26)) (box_below _ (.cells #[.int .i64 0, .int .i64 0, .bool false, .int .i64 0, .int .i64 0, .int .i64 0, .int .i64 0, .slice none 0 0] 26))
    have X0 := heap_on (.cells #[.int .i64 0, .int .i64 0, .bool false, .int .i64 0, .int .i64 0, .int .i64 0, .int .i64 0, .slice none 0 0] 26) (heap_at w (.cells #[.int .i64 f0, .int .i64 f1, .bool f2, .int .i64 f3, .int .i64 f4, .int .i64 f5, .int .i64 f6, .slice (some ad) d.length cap] 26))
    have X1 := heap_at (w.alloc (.cells #[.int .i64 f0, .int .i64 f1, .bool f2, .int .i64 f3, .int .i64 f4, .int .i64 f5, .int .i64 f6, .slice (some ad) d.length cap] 26)) (.cells #[.int .i64 0, .int .i64 0, .bool false, .int .i64 0, .int .i64 0, .int .i64 0, .int .i64 0, .slice none 0 0] 26)
    rw [alloc_len] at X1
    have sz : ((w.alloc (.cells #[.int .i64 f0, .int .i64 f1, .bool f2, .int .i64 f3, .int .i64 f4, .int .i64 f5, .int .i64 f6, .slice (some ad) d.length cap] 26)).alloc (.cells #[.int .i64 0, .int .i64 0, .bool false, .int .i64 0, .int .i64 0, .int .i64 0, .int .i64 0, .slice none 0 0] 26)).heap.size = w.heap.size + 1 + 1 := by simp
    have hown : (((w.alloc (.cells #[.int .i64 f0, .int .i64 f1, .bool f2, .int .i64 f3, .int .i64 f4, .int .i64 f5, .int .i64 f6, .slice (some ad) d.length cap] 26)).alloc (.cells #[.int .i64 0, .int .i64 0, .bool false, .int .i64 0, .int .i64 0, .int .i64 0, .int .i64 0, .slice none 0 0] 26)).alloc (.cells #[] 2)).ownsRow ((w.alloc (.cells #[.int .i64 f0, .int .i64 f1, .bool f2, .int .i64 f3, .int .i64 f4, .int .i64 f5, .int .i64 f6, .slice (some ad) d.length cap] 26)).alloc (.cells #[.int .i64 0, .int .i64 0, .bool false, .int .i64 0, .int .i64 0, .int .i64 0, .int .i64 0, .slice none 0 0] 26)).heap.size 2 1 (.slice (some ⟨((w.alloc (.cells #[.int .i64 f0, .int .i64 f1, .bool f2, .int .i64 f3, .int .i64 f4, .int .i64 f5, .int .i64 f6, .slice (some ad) d.length cap] 26)).alloc (.cells #[.int .i64 0, .int .i64 0, .bool false, .int .i64 0, .int .i64 0, .int .i64 0, .int .i64 0, .slice none 0 0] 26)).heap.size, 0, none⟩) 0 0) 0 [] := World.ownsRow_lit _ #[] 0 (Nat.le_refl _) (Nat.zero_le _) rfl
    rw [sz] at hown
    have HI : Hid (In64 f0 ∧ In64 f1 ∧ In64 f3 ∧ In64 f4 ∧ In64 f5 ∧ In64 f6) := ⟨j0, j1, j3, j4, j5, j6⟩
    have HS : Hid (Reads w (some ad) d ∧ ∀ x ∈ d, In64 x) := ⟨reads_of h, in64_of h⟩
    have HX : Hid _ := And.intro X0 X1
    clear j0 j1 j3 j4 j5 j6 X0 X1 h
    go_enter Try.func34, Try.ntmps34
    go_wp2_with (at_builtin; refine wpList_append_own _ rfl _ _ 24 rfl (w.heap.size + 1 + 1) 2 i0 (.int .i64 0) 1 8 Try.underlying24 hi hz0 hz1 hz2 rfl (by decide) _ _ _ rfl hown ad d.length cap (d.map (Value.int .i64)) rfl (by simp) ?c1 ?c2 ?c3 ?c4 ?c5 ?_)
    case c1 =>
      intro j u hj
      obtain ⟨hjl, rfl⟩ := List.getElem?_eq_some_iff.1 hj
      simp at hjl
      rcases HS.out.1 with rfl | ⟨b, off, ha, hc⟩
      · simp at hjl
      simp only [Option.some.injEq] at ha
      subst ha
      have g0 := hc j hjl
      have g1 := cell_kp3 w (.cells #[.int .i64 f0, .int .i64 f1, .bool f2, .int .i64 f3, .int .i64 f4, .int .i64 f5, .int .i64 f6, .slice (some ⟨b, off, none⟩) d.length cap] 26) (.cells #[.int .i64 0, .int .i64 0, .bool false, .int .i64 0, .int .i64 0, .int .i64 0, .int .i64 0, .slice none 0 0] 26) (.cells #[] 2) g0
      rw [show (⟨b, off, none⟩ : Addr).add j = ⟨b, off + j, none⟩ from by simp [Addr.add], g1]
      simp [List.getD_eq_getElem?_getD, hjl]
    case c2 => intro u hu; simp at hu; obtain ⟨x, _, rfl⟩ := hu; rfl
    case c3 => unfold maxLen; omega
    case c4 => omega
    case c5 => simp
    · intro v' w1 hown' hgrow hnil
      have hv : v' ≠ .slice none 0 0 := hnil
      have hown'' : w1.ownsRow ((w.alloc (.cells #[.int .i64 f0, .int .i64 f1, .bool f2, .int .i64 f3, .int .i64 f4, .int .i64 f5, .int .i64 f6, .slice (some ad) d.length cap] 26)).alloc (.cells #[.int .i64 0, .int .i64 0, .bool false, .int .i64 0, .int .i64 0, .int .i64 0, .int .i64 0, .slice none 0 0] 26)).heap.size 2 1 v' d.length (d.map (Value.int .i64)) := by rw [sz]; simpa using hown'
      have HO := madeR_ints (made_app (w := (w.alloc (.cells #[.int .i64 f0, .int .i64 f1, .bool f2, .int .i64 f3, .int .i64 f4, .int .i64 f5, .int .i64 f6, .slice (some ad) d.length cap] 26)).alloc (.cells #[.int .i64 0, .int .i64 0, .bool false, .int .i64 0, .int .i64 0, .int .i64 0, .int .i64 0, .slice none 0 0] 26)) hown'' (by rw [sz]; exact hgrow) hv) HS.out.2
      obtain ⟨av, cv, rfl⟩ := slown_val HO.1
      obtain ⟨X0, X1⟩ := HX.out
      have B1 := below_step B0 HO.2
      replace X0 := row_keep HO.2 X0
      replace X1 := row_keep HO.2 X1
      obtain ⟨y0, y1, y2, y3, y4, y5, y6, y7⟩ := cells_8 X0
      obtain ⟨u0, u1, u2, u3, u4, u5, u6, u7⟩ := froz_8 X0
      obtain ⟨z0, z1, z2, z3, z4, z5, z6, z7⟩ := cells_8 X1
      obtain ⟨g0, g1, g2, g3, g4, g5, g6, g7⟩ := froz_8 X1
      have HOO : Hid (intsR.own w1 (rng ((w.alloc (.cells #[.int .i64 f0, .int .i64 f1, .bool f2, .int .i64 f3, .int .i64 f4, .int .i64 f5, .int .i64 f6, .slice (some ad) d.length cap] 26)).alloc (.cells #[.int .i64 0, .int .i64 0, .bool false, .int .i64 0, .int .i64 0, .int .i64 0, .int .i64 0, .slice none 0 0] 26)).heap.size w1.heap.size) [.slice av d.length cv] d) := HO.1
      have HX2 : Hid _ := And.intro X0 X1
      clear hown' hgrow hnil hown hown'' HO X0 X1 HX hv
      go_wp2
      obtain ⟨X0, X1⟩ := HX2.out
      have Y1 := put_8 (y0 := .int .i64 f0) (y1 := .int .i64 f1) (y2 := .bool f2) (y3 := .int .i64 f3) (y4 := .int .i64 f4) (y5 := .int .i64 f5) (y6 := .int .i64 f6) (y7 := .slice av d.length cv) (heap_setC (g := w.heap.size) (o := 7) (v := .slice av d.length cv) X1 (by omega))
      obtain ⟨r0, r1, r2, r3, r4, r5, r6, r7⟩ := cells_8 Y1
      refine bodyPost_ret (v := .agg #[.int .i64 f0, .int .i64 f1, .bool f2, .int .i64 f3, .int .i64 f4, .int .i64 f5, .int .i64 f6, .slice av d.length cv]) (by simp [results, Try.results34, go_sem, r0, r1, r2, r3, r4, r5, r6, r7]) rfl ⟨av, cv, rfl, own_ent HI.out.1 HI.out.2.1 HI.out.2.2.1 HI.out.2.2.2.1 HI.out.2.2.2.2.1 HI.out.2.2.2.2.2 ?_, ?_⟩
      · refine intsR.own_mono (own_setC (own_setC (own_setC (own_setC (own_setC (own_setC (own_setC (own_setC (own_setC (HOO.out) (fun h => by have := h.1; omega)) (fun h => by have := h.1; omega)) (fun h => by have := h.1; omega)) (fun h => by have := h.1; omega)) (fun h => by have := h.1; omega)) (fun h => by have := h.1; omega)) (fun h => by have := h.1; omega)) (fun h => by have := h.1; omega)) (fun h => by have := h.1; omega)) ?_
        exact rng_sub (by omega) (by simp)
      · exact below_setC (below_setC (below_setC (below_setC (below_setC (below_setC (below_setC (below_setC (below_setC (B1) (by omega)) (by omega)) (by omega)) (by omega)) (by omega)) (by omega)) (by omega)) (by omega)) (by omega)
  | none =>
    obtain rfl : d = [] := by
      rcases h with h | ⟨b, off, rows, ha, _⟩
      · exact h
      · cases ha
    rw [show ([] : List Int).length = 0 from rfl]
    obtain ⟨i0, hi, hz0, hz1, hz2⟩ := info_parts Try.infoI
    have B0 := below_step (box_below w (.cells #[.int .i64 f0, .int .i64 f1, .bool f2, .int .i64 f3, .int .i64 f4, .int .i64 f5, .int .i64 f6, .slice none 0 cap] 26)) (box_below _ (.cells #[.int .i64 0, .int .i64 0, .bool false, .int .i64 0, .int .i64 0, .int .i64 0, .int .i64 0, .slice none 0 0] 26))
    have X0 := heap_on (.cells #[.int .i64 0, .int .i64 0, .bool false, .int .i64 0, .int .i64 0, .int .i64 0, .int .i64 0, .slice none 0 0] 26) (heap_at w (.cells #[.int .i64 f0, .int .i64 f1, .bool f2, .int .i64 f3, .int .i64 f4, .int .i64 f5, .int .i64 f6, .slice none 0 cap] 26))
    have X1 := heap_at (w.alloc (.cells #[.int .i64 f0, .int .i64 f1, .bool f2, .int .i64 f3, .int .i64 f4, .int .i64 f5, .int .i64 f6, .slice none 0 cap] 26)) (.cells #[.int .i64 0, .int .i64 0, .bool false, .int .i64 0, .int .i64 0, .int .i64 0, .int .i64 0, .slice none 0 0] 26)
    rw [alloc_len] at X1
    have sz : ((w.alloc (.cells #[.int .i64 f0, .int .i64 f1, .bool f2, .int .i64 f3, .int .i64 f4, .int .i64 f5, .int .i64 f6, .slice none 0 cap] 26)).alloc (.cells #[.int .i64 0, .int .i64 0, .bool false, .int .i64 0, .int .i64 0, .int .i64 0, .int .i64 0, .slice none 0 0] 26)).heap.size = w.heap.size + 1 + 1 := by simp
    have hown : (((w.alloc (.cells #[.int .i64 f0, .int .i64 f1, .bool f2, .int .i64 f3, .int .i64 f4, .int .i64 f5, .int .i64 f6, .slice none 0 cap] 26)).alloc (.cells #[.int .i64 0, .int .i64 0, .bool false, .int .i64 0, .int .i64 0, .int .i64 0, .int .i64 0, .slice none 0 0] 26)).alloc (.cells #[] 2)).ownsRow ((w.alloc (.cells #[.int .i64 f0, .int .i64 f1, .bool f2, .int .i64 f3, .int .i64 f4, .int .i64 f5, .int .i64 f6, .slice none 0 cap] 26)).alloc (.cells #[.int .i64 0, .int .i64 0, .bool false, .int .i64 0, .int .i64 0, .int .i64 0, .int .i64 0, .slice none 0 0] 26)).heap.size 2 1 (.slice (some ⟨((w.alloc (.cells #[.int .i64 f0, .int .i64 f1, .bool f2, .int .i64 f3, .int .i64 f4, .int .i64 f5, .int .i64 f6, .slice none 0 cap] 26)).alloc (.cells #[.int .i64 0, .int .i64 0, .bool false, .int .i64 0, .int .i64 0, .int .i64 0, .int .i64 0, .slice none 0 0] 26)).heap.size, 0, none⟩) 0 0) 0 [] := World.ownsRow_lit _ #[] 0 (Nat.le_refl _) (Nat.zero_le _) rfl
    rw [sz] at hown
    have HI : Hid (In64 f0 ∧ In64 f1 ∧ In64 f3 ∧ In64 f4 ∧ In64 f5 ∧ In64 f6) := ⟨j0, j1, j3, j4, j5, j6⟩
    have M := made_nothing ((w.alloc (.cells #[.int .i64 f0, .int .i64 f1, .bool f2, .int .i64 f3, .int .i64 f4, .int .i64 f5, .int .i64 f6, .slice none 0 cap] 26)).alloc (.cells #[.int .i64 0, .int .i64 0, .bool false, .int .i64 0, .int .i64 0, .int .i64 0, .int .i64 0, .slice none 0 0] 26))
    rw [sz] at M
    have HM : Hid _ := M
    have HX : Hid _ := And.intro X0 X1
    clear j0 j1 j3 j4 j5 j6 M X0 X1
    go_enter Try.func34, Try.ntmps34
    go_wp2_with (at_builtin; refine wpList_append_zero rfl _ _ 24 rfl (w.heap.size + 1 + 1) 2 i0 1 Try.underlying24 hi cap _ _ _ rfl hown rfl ?_)
    have N := made_nothing ((w.alloc (.cells #[.int .i64 f0, .int .i64 f1, .bool f2, .int .i64 f3, .int .i64 f4, .int .i64 f5, .int .i64 f6, .slice (some ⟨w.heap.size + 1 + 1, 0, none⟩) 0 0] 26)).alloc (.cells #[.int .i64 f0, .int .i64 f1, .bool f2, .int .i64 f3, .int .i64 f4, .int .i64 f5, .int .i64 f6, .slice (some ⟨w.heap.size + 1 + 1, 0, none⟩) 0 0] 26))
    have sz2 : ((w.alloc (.cells #[.int .i64 f0, .int .i64 f1, .bool f2, .int .i64 f3, .int .i64 f4, .int .i64 f5, .int .i64 f6, .slice (some ⟨w.heap.size + 1 + 1, 0, none⟩) 0 0] 26)).alloc (.cells #[.int .i64 f0, .int .i64 f1, .bool f2, .int .i64 f3, .int .i64 f4, .int .i64 f5, .int .i64 f6, .slice (some ⟨w.heap.size + 1 + 1, 0, none⟩) 0 0] 26)).heap.size = w.heap.size + 1 + 1 := by simp
    rw [sz2] at N
    refine bodyPost_ret (v := .agg #[.int .i64 f0, .int .i64 f1, .bool f2, .int .i64 f3, .int .i64 f4, .int .i64 f5, .int .i64 f6, .slice (some ⟨w.heap.size + 1 + 1, 0, none⟩) 0 0]) (by simp [results, Try.results34, go_sem]) rfl ⟨_, _, rfl, own_ent HI.out.1 HI.out.2.1 HI.out.2.2.1 HI.out.2.2.2.1 HI.out.2.2.2.2.1 HI.out.2.2.2.2.2 (intsR.own_mono N.1 (rng_sub (by rw [sz2]; omega) (Nat.le_refl _))), below_step (below_step (box_below w _) (box_below _ _)) N.2⟩
end Go.Proofs.Ytlbolnbchijknaa
