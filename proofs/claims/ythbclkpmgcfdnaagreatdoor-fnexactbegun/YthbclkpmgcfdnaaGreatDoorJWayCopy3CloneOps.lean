
/- WayCopy, CloneRep, CloneOps. -/
import Derived.Test.YthbclkpmgcfdnaaGreatDoorJOwn516Lines4
import Derived.Test.YthbclkpmgcfdnaaGreatDoorWays2
import Derived.Test.YthbclkpmgcfdnaaGreatDoorJLists8CacheFacts
import Derived.Lib.SliceRun
import Derived.Test.YthbclkpmgcfdnaaGreatDoorJLines614Iters
/- One way, copied; an empty one: of the program and of the specification. Conditions: lists of at most 2^20 numbers. -/
namespace Go.Proofs.YthbclkpmgcfdnaaGreatDoor
open Go.ChangeShapes Go.WideShapes Go.ChangeAt Go.RowKit
set_option linter.unusedVariables false


set_option maxHeartbeats 400000 in
theorem emptyWay_any (w : World) : Calls Tryz.prog 53 #[] w fun e w' => ∃ av cv, e = .returned (.agg #[.int .i64 (-1), .int .i64 0, .slice av 0 cv]) ∧ MadeR wayR w w' [.int .i64 (-1), .int .i64 0, .slice av 0 cv] emptyW := by
  have M := made_nothing (w.alloc (.cells #[.int .i64 (-1), .int .i64 0, .slice (some ⟨w.heap.size + 1, 0, none⟩) 0 0] 30))
  have X := heap_on (.cells #[] 2) (heap_at w (.cells #[.int .i64 (-1), .int .i64 0, .slice (some ⟨w.heap.size + 1, 0, none⟩) 0 0] 30))
  rw [alloc_len] at M
  obtain ⟨r0, r1, r2⟩ := cells_3 X
  go_enter Tryz.func53, Tryz.ntmps53
  go_wp2
  refine bodyPost_ret (v := .agg #[.int .i64 (-1), .int .i64 0, .slice (some ⟨w.heap.size + 1, 0, none⟩) 0 0]) (by simp [results, Tryz.results53, go_sem]) rfl ⟨_, _, rfl, own_way (by constructor <;> decide) (by constructor <;> decide) ?_, below_step (box_below w _) M.2⟩
  exact intsR.own_mono M.1 (rng_sub (by simp) (Nat.le_refl _))

theorem own_nothing (w : World) (S : Foot) : intsR.own w S [.slice none 0 0] [] := ⟨_, [], fun _ => False, rfl, World.ownsRow_nil _ _ _ _, fun g hg => by simp [Value.ownBlock] at hg, fun _ h => h.elim, rfl⟩
set_option maxHeartbeats 400000 in
theorem l6Empty_any (w : World) : Calls Tryz.prog 69 #[] w fun e w' => ∃ av cv, e = .returned (.agg #[.int .i64 (-1), .int .i64 0, .slice av 0 cv]) ∧ MadeR wayR w w' [.int .i64 (-1), .int .i64 0, .slice av 0 cv] emptyW := by
  go_enter Tryz.func69, Tryz.ntmps69
  go_wp2
  refine bodyPost_ret (v := .agg #[.int .i64 (-1), .int .i64 0, .slice none 0 0]) (by simp [results, Tryz.results69, go_sem]) rfl ⟨_, _, rfl, own_way (by constructor <;> decide) (by constructor <;> decide) (own_nothing _ _), box_below w _⟩

set_option maxHeartbeats 1000000 in
theorem wayCopied_any (l s : Int) (d : List Int) (a : Option Addr) (cap : Nat) (w : World) (i1 : In64 l) (i2 : In64 s) (h : SlRd intR w a d) (hm : d.length ≤ 1048576) :
    Calls Tryz.prog 106 #[.agg #[.int .i64 l, .int .i64 s, .slice a d.length cap]] w fun e w' => ∃ av cv, e = .returned (.agg #[.int .i64 l, .int .i64 s, .slice av d.length cv]) ∧ MadeR wayR w w' [.int .i64 l, .int .i64 s, .slice av d.length cv] (l, s, d) := by
  cases a with
  | some ad =>
    obtain ⟨i0, hi, hz0, hz1, hz2⟩ := info_parts Tryz.infoI
    have B0 := below_step (box_below w (.cells #[.int .i64 l, .int .i64 s, .slice (some ad) d.length cap] 30)) (box_below _ (.cells #[.int .i64 0, .int .i64 0, .slice none 0 0] 30))
    have X0 := heap_on (.cells #[.int .i64 0, .int .i64 0, .slice none 0 0] 30) (heap_at w (.cells #[.int .i64 l, .int .i64 s, .slice (some ad) d.length cap] 30))
    have X1 := heap_at (w.alloc (.cells #[.int .i64 l, .int .i64 s, .slice (some ad) d.length cap] 30)) (.cells #[.int .i64 0, .int .i64 0, .slice none 0 0] 30)
    rw [alloc_len] at X1
    have sz : ((w.alloc (.cells #[.int .i64 l, .int .i64 s, .slice (some ad) d.length cap] 30)).alloc (.cells #[.int .i64 0, .int .i64 0, .slice none 0 0] 30)).heap.size = w.heap.size + 1 + 1 := by simp
    have hown : (((w.alloc (.cells #[.int .i64 l, .int .i64 s, .slice (some ad) d.length cap] 30)).alloc (.cells #[.int .i64 0, .int .i64 0, .slice none 0 0] 30)).alloc (.cells #[] 2)).ownsRow ((w.alloc (.cells #[.int .i64 l, .int .i64 s, .slice (some ad) d.length cap] 30)).alloc (.cells #[.int .i64 0, .int .i64 0, .slice none 0 0] 30)).heap.size 2 1 (.slice (some ⟨((w.alloc (.cells #[.int .i64 l, .int .i64 s, .slice (some ad) d.length cap] 30)).alloc (.cells #[.int .i64 0, .int .i64 0, .slice none 0 0] 30)).heap.size, 0, none⟩) 0 0) 0 [] := World.ownsRow_lit _ #[] 0 (Nat.le_refl _) (Nat.zero_le _) rfl
    rw [sz] at hown
    have HI : Hid (In64 l ∧ In64 s) := ⟨i1, i2⟩
    have HS : Hid (Reads w (some ad) d ∧ ∀ x ∈ d, In64 x) := ⟨reads_of h, in64_of h⟩
    have HX : Hid _ := And.intro X0 X1
    clear i1 i2 X0 X1 h
    go_enter Tryz.func106, Tryz.ntmps106
    go_wp2_with (at_builtin; refine wpList_append_own _ rfl _ _ 25 rfl (w.heap.size + 1 + 1) 2 i0 (.int .i64 0) 1 8 Tryz.underlying25 hi hz0 hz1 hz2 rfl (by decide) _ _ _ rfl hown ad d.length cap (d.map (Value.int .i64)) rfl (by simp) ?c1 ?c2 ?c3 ?c4 ?c5 ?_)
    case c1 =>
      intro j u hj
      obtain ⟨hjl, rfl⟩ := List.getElem?_eq_some_iff.1 hj
      simp at hjl
      rcases HS.out.1 with rfl | ⟨b, off, ha, hc⟩
      · simp at hjl
      simp only [Option.some.injEq] at ha
      subst ha
      have g0 := hc j hjl
      have g1 := cell_kp3 w (.cells #[.int .i64 l, .int .i64 s, .slice (some ⟨b, off, none⟩) d.length cap] 30) (.cells #[.int .i64 0, .int .i64 0, .slice none 0 0] 30) (.cells #[] 2) g0
      rw [show (⟨b, off, none⟩ : Addr).add j = ⟨b, off + j, none⟩ from by simp [Addr.add], g1]
      simp [List.getD_eq_getElem?_getD, hjl]
    case c2 => intro u hu; simp at hu; obtain ⟨x, _, rfl⟩ := hu; rfl
    case c3 => unfold maxLen; omega
    case c4 => omega
    case c5 => simp
    · intro v' w1 hown' hgrow hnil
      have hv : v' ≠ .slice none 0 0 := hnil
      have hown'' : w1.ownsRow ((w.alloc (.cells #[.int .i64 l, .int .i64 s, .slice (some ad) d.length cap] 30)).alloc (.cells #[.int .i64 0, .int .i64 0, .slice none 0 0] 30)).heap.size 2 1 v' d.length (d.map (Value.int .i64)) := by rw [sz]; simpa using hown'
      have HO := madeR_ints (made_app (w := (w.alloc (.cells #[.int .i64 l, .int .i64 s, .slice (some ad) d.length cap] 30)).alloc (.cells #[.int .i64 0, .int .i64 0, .slice none 0 0] 30)) hown'' (by rw [sz]; exact hgrow) hv) HS.out.2
      obtain ⟨av, cv, rfl⟩ := slown_val HO.1
      obtain ⟨X0, X1⟩ := HX.out
      have B1 := below_step B0 HO.2
      replace X0 := row_keep HO.2 X0
      replace X1 := row_keep HO.2 X1
      obtain ⟨y0, y1, y2⟩ := cells_3 X0
      obtain ⟨f0, f1, f2⟩ := cells_froz X0
      obtain ⟨z0, z1, z2⟩ := cells_3 X1
      obtain ⟨g0, g1, g2⟩ := cells_froz X1
      have HOO : Hid (intsR.own w1 (rng ((w.alloc (.cells #[.int .i64 l, .int .i64 s, .slice (some ad) d.length cap] 30)).alloc (.cells #[.int .i64 0, .int .i64 0, .slice none 0 0] 30)).heap.size w1.heap.size) [.slice av d.length cv] d) := HO.1
      have HX2 : Hid _ := And.intro X0 X1
      clear hown' hgrow hnil hown hown'' HO X0 X1 HX hv
      go_wp2
      obtain ⟨X0, X1⟩ := HX2.out
      have Y1 := put3 (a := .int .i64 l) (b := .int .i64 s) (c := .slice av d.length cv) (heap_setC (g := w.heap.size) (o := 2) (v := .slice av d.length cv) X1 (by omega))
      obtain ⟨r0, r1, r2⟩ := cells_3 Y1
      refine bodyPost_ret (v := .agg #[.int .i64 l, .int .i64 s, .slice av d.length cv]) (by simp [results, Tryz.results106, go_sem, r0, r1, r2]) rfl ⟨av, cv, rfl, own_way HI.out.1 HI.out.2 ?_, ?_⟩
      · refine intsR.own_mono (own_setC (own_setC (own_setC (own_setC HOO.out (fun h => by have := h.1; omega)) (fun h => by have := h.1; omega)) (fun h => by have := h.1; omega)) (fun h => by have := h.1; omega)) ?_
        exact rng_sub (by omega) (by simp)
      · exact below_setC (below_setC (below_setC (below_setC B1 (by omega)) (by omega)) (by omega)) (by omega)
  | none =>
    obtain rfl : d = [] := by
      rcases h with h | ⟨b, off, rows, ha, _⟩
      · exact h
      · cases ha
    rw [show ([] : List Int).length = 0 from rfl]
    obtain ⟨i0, hi, hz0, hz1, hz2⟩ := info_parts Tryz.infoI
    have B0 := below_step (box_below w (.cells #[.int .i64 l, .int .i64 s, .slice none 0 cap] 30)) (box_below _ (.cells #[.int .i64 0, .int .i64 0, .slice none 0 0] 30))
    have X0 := heap_on (.cells #[.int .i64 0, .int .i64 0, .slice none 0 0] 30) (heap_at w (.cells #[.int .i64 l, .int .i64 s, .slice none 0 cap] 30))
    have X1 := heap_at (w.alloc (.cells #[.int .i64 l, .int .i64 s, .slice none 0 cap] 30)) (.cells #[.int .i64 0, .int .i64 0, .slice none 0 0] 30)
    rw [alloc_len] at X1
    have sz : ((w.alloc (.cells #[.int .i64 l, .int .i64 s, .slice none 0 cap] 30)).alloc (.cells #[.int .i64 0, .int .i64 0, .slice none 0 0] 30)).heap.size = w.heap.size + 1 + 1 := by simp
    have hown : (((w.alloc (.cells #[.int .i64 l, .int .i64 s, .slice none 0 cap] 30)).alloc (.cells #[.int .i64 0, .int .i64 0, .slice none 0 0] 30)).alloc (.cells #[] 2)).ownsRow ((w.alloc (.cells #[.int .i64 l, .int .i64 s, .slice none 0 cap] 30)).alloc (.cells #[.int .i64 0, .int .i64 0, .slice none 0 0] 30)).heap.size 2 1 (.slice (some ⟨((w.alloc (.cells #[.int .i64 l, .int .i64 s, .slice none 0 cap] 30)).alloc (.cells #[.int .i64 0, .int .i64 0, .slice none 0 0] 30)).heap.size, 0, none⟩) 0 0) 0 [] := World.ownsRow_lit _ #[] 0 (Nat.le_refl _) (Nat.zero_le _) rfl
    rw [sz] at hown
    have HI : Hid (In64 l ∧ In64 s) := ⟨i1, i2⟩
    have M := made_nothing ((w.alloc (.cells #[.int .i64 l, .int .i64 s, .slice none 0 cap] 30)).alloc (.cells #[.int .i64 0, .int .i64 0, .slice none 0 0] 30))
    rw [sz] at M
    have HM : Hid _ := M
    have HX : Hid _ := And.intro X0 X1
    clear i1 i2 M X0 X1
    go_enter Tryz.func106, Tryz.ntmps106
    go_wp2_with (at_builtin; refine wpList_append_zero rfl _ _ 25 rfl (w.heap.size + 1 + 1) 2 i0 1 Tryz.underlying25 hi cap _ _ _ rfl hown rfl ?_)
    have N := made_nothing ((w.alloc (.cells #[.int .i64 l, .int .i64 s, .slice (some ⟨w.heap.size + 1 + 1, 0, none⟩) 0 0] 30)).alloc (.cells #[.int .i64 l, .int .i64 s, .slice (some ⟨w.heap.size + 1 + 1, 0, none⟩) 0 0] 30))
    have sz2 : ((w.alloc (.cells #[.int .i64 l, .int .i64 s, .slice (some ⟨w.heap.size + 1 + 1, 0, none⟩) 0 0] 30)).alloc (.cells #[.int .i64 l, .int .i64 s, .slice (some ⟨w.heap.size + 1 + 1, 0, none⟩) 0 0] 30)).heap.size = w.heap.size + 1 + 1 := by simp
    rw [sz2] at N
    refine bodyPost_ret (v := .agg #[.int .i64 l, .int .i64 s, .slice (some ⟨w.heap.size + 1 + 1, 0, none⟩) 0 0]) (by simp [results, Tryz.results106, go_sem]) rfl ⟨_, _, rfl, own_way HI.out.1 HI.out.2 (intsR.own_mono N.1 (rng_sub (by rw [sz2]; omega) (Nat.le_refl _))), below_step (below_step (box_below w _) (box_below _ _)) N.2⟩

set_option maxHeartbeats 1000000 in
theorem l6CopyWay_any (l s : Int) (d : List Int) (a : Option Addr) (cap : Nat) (w : World) (i1 : In64 l) (i2 : In64 s) (h : SlRd intR w a d) (hm : d.length ≤ 1048576) :
    Calls Tryz.prog 71 #[.agg #[.int .i64 l, .int .i64 s, .slice a d.length cap]] w fun e w' => ∃ av cv, e = .returned (.agg #[.int .i64 l, .int .i64 s, .slice av d.length cv]) ∧ MadeR wayR w w' [.int .i64 l, .int .i64 s, .slice av d.length cv] (l, s, d) := by
  have B0 := below_step (box_below w (.cells #[.int .i64 l, .int .i64 s, .slice a d.length cap] 30)) (box_below _ (.cells #[.int .i64 0, .int .i64 0, .slice none 0 0] 30))
  have X0 := heap_on (.cells #[.int .i64 0, .int .i64 0, .slice none 0 0] 30) (heap_at w (.cells #[.int .i64 l, .int .i64 s, .slice a d.length cap] 30))
  have X1 := heap_at (w.alloc (.cells #[.int .i64 l, .int .i64 s, .slice a d.length cap] 30)) (.cells #[.int .i64 0, .int .i64 0, .slice none 0 0] 30)
  rw [alloc_len] at X1
  have sz : ((w.alloc (.cells #[.int .i64 l, .int .i64 s, .slice a d.length cap] 30)).alloc (.cells #[.int .i64 0, .int .i64 0, .slice none 0 0] 30)).heap.size = w.heap.size + 1 + 1 := by simp
  have HI : Hid (In64 l ∧ In64 s) := ⟨i1, i2⟩
  have HC := l1Copy_rep a d cap ((w.alloc (.cells #[.int .i64 l, .int .i64 s, .slice a d.length cap] 30)).alloc (.cells #[.int .i64 0, .int .i64 0, .slice none 0 0] 30)) (slrd_keep h fun k hk => B0.block k hk) hm
  clear i1 i2 h hm
  go_enter Tryz.func71, Tryz.ntmps71
  go_wp2_with fail
  refine HC.mono ?_
  rintro e w1 ⟨v, rfl, HO⟩
  obtain ⟨av, cv, rfl⟩ := slown_val HO.1
  have B1 := below_step B0 HO.2
  replace X0 := row_keep HO.2 X0
  replace X1 := row_keep HO.2 X1
  obtain ⟨y0, y1, y2⟩ := cells_3 X0
  obtain ⟨f0, f1, f2⟩ := cells_froz X0
  obtain ⟨z0, z1, z2⟩ := cells_3 X1
  obtain ⟨g0, g1, g2⟩ := cells_froz X1
  have HOO : Hid (intsR.own w1 (rng ((w.alloc (.cells #[.int .i64 l, .int .i64 s, .slice a d.length cap] 30)).alloc (.cells #[.int .i64 0, .int .i64 0, .slice none 0 0] 30)).heap.size w1.heap.size) [.slice av d.length cv] d) := HO.1
  have HX2 : Hid _ := And.intro X0 X1
  clear HO X0 X1 HC
  go_wp2
  obtain ⟨X0, X1⟩ := HX2.out
  have Y1 := put3 (a := .int .i64 l) (b := .int .i64 s) (c := .slice av d.length cv) (heap_setC (g := w.heap.size) (o := 2) (v := .slice av d.length cv) X1 (by omega))
  obtain ⟨r0, r1, r2⟩ := cells_3 Y1
  refine bodyPost_ret (v := .agg #[.int .i64 l, .int .i64 s, .slice av d.length cv]) (by simp [results, Tryz.results71, go_sem, r0, r1, r2]) rfl ⟨av, cv, rfl, own_way HI.out.1 HI.out.2 ?_, ?_⟩
  · refine intsR.own_mono (own_setC (own_setC (own_setC (own_setC HOO.out (fun h => by have := h.1; omega)) (fun h => by have := h.1; omega)) (fun h => by have := h.1; omega)) (fun h => by have := h.1; omega)) ?_
    exact rng_sub (by omega) (by simp)
  · exact below_setC (below_setC (below_setC (below_setC B1 (by omega)) (by omega)) (by omega)) (by omega)
end Go.Proofs.YthbclkpmgcfdnaaGreatDoor
/- slices.Clone of numbers. Conditions: a list that reads as told, of a length that a machine can hold. -/
namespace Go.Proofs.YthbclkpmgcfdnaaGreatDoor
open Go.ChangeShapes Go.WideShapes Go.ChangeAt Go.RowKit
set_option linter.unusedVariables false

set_option maxRecDepth 100000 in
set_option maxHeartbeats 1000000 in
theorem clone_rep (a : Option Addr) (d : List Int) (cap : Nat) (w : World) (h : SlRd intR w a d) (hm : d.length ≤ 1048576) :
    Calls Tryz.prog 107 #[.slice a d.length cap] w fun e w' => ∃ av cv, e = .returned (.slice av d.length cv) ∧ MadeR intsR w w' [.slice av d.length cv] d := by
  cases a with
  | some ad =>
    obtain ⟨i0, hi, hz0, hz1, hz2⟩ := info_parts Tryz.infoI
    have hown : (w.alloc (.cells #[] 2)).ownsRow w.heap.size 2 1 (.slice (some ⟨w.heap.size, 0, none⟩) 0 0) 0 [] := World.ownsRow_lit _ #[] 0 (Nat.le_refl _) (Nat.zero_le _) rfl
    have HS : Hid (Reads w (some ad) d ∧ ∀ x ∈ d, In64 x) := ⟨reads_of h, in64_of h⟩
    have he := fun W => Go.Lib.run_eql_slice_nil (P := Tryz.prog) W 25 2 (some ad) d.length cap 0 0 Tryz.underlying25
    clear h
    go_enter Tryz.func107, Tryz.ntmps107
    go_wp2_with (at_builtin; refine wpList_append_own _ rfl _ _ 25 rfl w.heap.size 2 i0 (.int .i64 0) 1 8 Tryz.underlying25 hi hz0 hz1 hz2 rfl (by decide) _ _ _ rfl hown ad d.length cap (d.map (Value.int .i64)) rfl (by simp) ?c1 ?c2 ?c3 ?c4 ?c5 ?_)
    case c1 =>
      intro j u hj
      obtain ⟨hjl, rfl⟩ := List.getElem?_eq_some_iff.1 hj
      simp at hjl
      rcases HS.out.1 with rfl | ⟨b, off, ha, hc⟩
      · simp at hjl
      simp only [Option.some.injEq] at ha
      subst ha
      have g0 := hc j hjl
      have g1 := (World.cell?_of_block (w := w) (a := ⟨b, off + j, none⟩) (Below.heap_alloc w (.cells #[] 2) b (World.block_lt_of_cell? w _ g0))).trans g0
      rw [show (⟨b, off, none⟩ : Addr).add j = ⟨b, off + j, none⟩ from by simp [Addr.add], g1]
      simp [List.getD_eq_getElem?_getD, hjl]
    case c2 => intro u hu; simp at hu; obtain ⟨x, _, rfl⟩ := hu; rfl
    case c3 => unfold maxLen; omega
    case c4 => omega
    case c5 => simp
    · intro v' w1 hown' hgrow hnil
      have hv : v' ≠ .slice none 0 0 := hnil
      have hown'' : w1.ownsRow w.heap.size 2 1 v' d.length (d.map (Value.int .i64)) := by simpa using hown'
      have HO := madeR_ints (made_app (w := w) hown'' hgrow hv) HS.out.2
      obtain ⟨av, cv, rfl⟩ := slown_val HO.1
      have HH : Hid _ := HO
      clear HO hown' hgrow hnil hown hown'' hv
      go_wp2
      go_ret
      exact ⟨_, _, rfl, HH.out⟩
  | none =>
    obtain rfl : d = [] := by
      rcases h with h | ⟨b, off, rows, ha, _⟩
      · exact h
      · cases ha
    rw [show ([] : List Int).length = 0 from rfl]
    have he := fun W => Go.Lib.run_eql_slice_nil (P := Tryz.prog) W 25 2 none 0 cap 0 0 Tryz.underlying25
    go_enter Tryz.func107, Tryz.ntmps107
    go_wp2
    go_ret
    exact ⟨none, 0, rfl, own_nothing w _, Below.refl _ w⟩
end Go.Proofs.YthbclkpmgcfdnaaGreatDoor
/- Lists of ops laid anew: slices.Clone, and append to a new list. Conditions: a list that reads as told, of a length that a machine can hold. -/
namespace Go.Proofs.YthbclkpmgcfdnaaGreatDoor
open Go.ChangeShapes Go.WideShapes Go.ChangeAt Go.RowKit
set_option linter.unusedVariables false
theorem Tryz.infoOps : (Tryz.prog.info? 54).map (fun i => (i.zero, i.size, i.bytes)) = some (some (.agg #[.int .i64 0, .int .i64 0, .int .i64 0, .int .i64 0]), 4, 32) := by kernel_rfl
theorem rows_ops {w w' : World} {S : Foot} : ∀ {rows : List Value} {xs : List OpD}, lrd opR w rows xs → lown opR w' S rows xs ∧ (∀ u ∈ rows, u.oneCell' = true) ∧ rows.length = xs.length * 4
  | rows, [], h => by
    have : rows = [] := h
    subst this
    exact ⟨rfl, by simp, rfl⟩
  | rows, x :: r, h => by
    obtain ⟨c1, c2, rfl, h1, h2⟩ := h
    obtain ⟨q1, q2, q3⟩ := rows_ops (w' := w') (S := S) h2
    obtain ⟨rfl, h4⟩ := op_rd h1
    refine ⟨⟨_, c2, fun _ => False, S, rfl, own_op h4, q1, fun _ h => h.elim, Sub.refl _, fun _ h _ => h⟩, ?_, ?_⟩
    · intro u hu
      rcases List.mem_append.1 hu with hu | hu
      · simp only [List.mem_cons, List.not_mem_nil, or_false] at hu
        rcases hu with rfl | rfl | rfl | rfl <;> rfl
      · exact q2 u hu
    · rw [List.length_append, q3]
      simp
      omega
theorem made_ops {w w0 w1 : World} {v' : Value} {o : Obj} {rows : List Value} {xs : List OpD} (hr : lrd opR w0 rows xs) (h : w1.ownsRow w.heap.size 54 4 v' xs.length rows)
    (hg : (w.alloc o).grownBy w1 (Value.slice (some ⟨w.heap.size, 0, none⟩) 0 0).ownBlock) (hv : v' ≠ .slice none 0 0) : MadeR opsR w w1 [v'] xs := by
  obtain ⟨q1, q2, q3⟩ := rows_ops (w' := w1) (S := fun _ => False) hr
  have hb : Below w.heap.size w w1 := ((Below.refl _ _).alloc (Nat.le_refl _) _).grown hg (by simp) (by
    intro r hr
    simp [Value.ownBlock] at hr
    omega)
  refine ⟨⟨v', rows, fun _ => False, rfl, row_base h (fun _ _ => Nat.zero_le _), fun g hg' => ⟨?_, fun h => h⟩, fun _ h => h.elim, q1⟩, hb⟩
  exact World.ownsRow.lt h g hg'
set_option maxRecDepth 100000 in
set_option maxHeartbeats 1000000 in
theorem clone_ops (v : Value) (d : List OpD) (w : World) (h : opsR.rd w [v] d) (hm : d.length ≤ 1048576) :
    Calls Tryz.prog 52 #[v] w fun e w' => ∃ v', e = .returned v' ∧ MadeR opsR w w' [v'] d := by
  obtain ⟨a, cap, e0, l1, l2, hs⟩ := h
  simp only [List.cons.injEq, and_true] at e0
  subst e0
  cases a with
  | some ad =>
    obtain ⟨rows, hr, hc⟩ := slrd_rows hs
    obtain ⟨q1, q2, q3⟩ := rows_ops (w' := w) (S := fun _ => False) hr
    obtain ⟨i0, hi, hz0, hz1, hz2⟩ := info_parts Tryz.infoOps
    have hown : (w.alloc (.cells #[] 54)).ownsRow w.heap.size 54 4 (.slice (some ⟨w.heap.size, 0, none⟩) 0 0) 0 [] := World.ownsRow_lit _ #[] 0 (Nat.le_refl _) (Nat.zero_le _) rfl
    have HR : Hid (lrd opR w rows d) := hr
    have he := fun W => Go.Lib.run_eql_slice_nil (P := Tryz.prog) W 28 54 (some ad) d.length cap 0 0 Tryz.underlying28
    have HC : Hid (∀ j u, rows[j]? = some u → (w.alloc (.cells #[] 54)).cell? (ad.add j) = some u) := fun j u hj => by
      have g0 := hc j u hj
      exact (World.cell?_of_block (Below.heap_alloc w (.cells #[] 54) _ (World.block_lt_of_cell? w _ g0))).trans g0
    clear hs hr q1 hc
    go_enter Tryz.func52, Tryz.ntmps52
    go_wp2_with (at_builtin; refine wpList_append_own _ rfl _ _ 28 rfl w.heap.size 54 i0 (.agg #[.int .i64 0, .int .i64 0, .int .i64 0, .int .i64 0]) 4 32 Tryz.underlying28 hi hz0 hz1 hz2 rfl (by decide) _ _ _ rfl hown ad d.length cap rows rfl q3 HC.out q2 ?c3 ?c4 ?c5 ?_)
    case c3 => unfold maxLen; omega
    case c4 => omega
    case c5 => simp
    · intro v' w1 hown' hgrow hnil
      have hv : v' ≠ .slice none 0 0 := hnil
      have hown'' : w1.ownsRow w.heap.size 54 4 v' d.length rows := by simpa using hown'
      have HH : Hid _ := made_ops (w := w) HR.out hown'' hgrow hv
      clear hown' hgrow hnil hown hown'' hv
      go_wp2
      go_ret
      exact ⟨_, rfl, HH.out⟩
  | none =>
    obtain rfl : d = [] := by
      rcases hs with h | ⟨b, off, rows, ha, _⟩
      · exact h
      · cases ha
    rw [show ([] : List OpD).length = 0 from rfl]
    have he := fun W => Go.Lib.run_eql_slice_nil (P := Tryz.prog) W 28 54 none 0 cap 0 0 Tryz.underlying28
    go_enter Tryz.func52, Tryz.ntmps52
    go_wp2
    go_ret
    exact ⟨_, rfl, ⟨_, [], fun _ => False, rfl, World.ownsRow_nil _ _ _ _, fun g hg => by simp [Value.ownBlock] at hg, fun _ h => h.elim, rfl⟩, Below.refl _ w⟩
/-- append(new list, v...) of ops, at the operation. -/
theorem wpList_ops {V : World} {ops : Array Oper} {rest : List Oper} {o : Oper} {a : Act} {Q : Exit → Act → World → Prop} (hgd : o.guard = none) (s x : Operand)
    (ho : o.op = .call { callee := .builtin .append, args := #[s, x], argTypes := #[28, 28] }) (v : Value) (d : List OpD) (hs : a.eval s = .slice (some ⟨V.heap.size, 0, none⟩) 0 0) (hx : a.eval x = v) (h : opsR.rd V [v] d) (hm : d.length ≤ 1048576)
    (k : ∀ v' w', MadeR opsR V w' [v'] d → wpList Tryz.prog ops Q rest (a.put o.dst v') w') : wpList Tryz.prog ops Q (o :: rest) a (V.alloc (.cells #[] 54)) := by
  obtain ⟨i0, hi, hz0, hz1, hz2⟩ := info_parts Tryz.infoOps
  have hown : (V.alloc (.cells #[] 54)).ownsRow V.heap.size 54 4 (.slice (some ⟨V.heap.size, 0, none⟩) 0 0) 0 [] := World.ownsRow_lit _ #[] 0 (Nat.le_refl _) (Nat.zero_le _) rfl
  obtain ⟨ad, cap, e0, l1, l2, hsl⟩ := h
  simp only [List.cons.injEq, and_true] at e0
  subst e0
  cases ad with
  | none =>
    obtain rfl : d = [] := by
      rcases hsl with h | ⟨b, off, rows, ha, _⟩
      · exact h
      · cases ha
    exact wpList_append_zero hgd s x 28 ho V.heap.size 54 i0 4 Tryz.underlying28 hi cap _ 0 [] hs hown hx (k _ _ ⟨(show opsR.own (V.alloc (.cells #[] 54)) (rng V.heap.size (V.alloc (.cells #[] 54)).heap.size) [.slice (some ⟨V.heap.size, 0, none⟩) 0 0] [] from ⟨_, [], fun _ => False, rfl, row_base hown (fun _ _ => Nat.zero_le _), fun g hg => ⟨World.ownsRow.lt hown g hg, fun h => h⟩, fun _ h => h.elim, rfl⟩), box_below V _⟩)
  | some ad =>
    obtain ⟨rows, hr, hc⟩ := slrd_rows hsl
    obtain ⟨q1, q2, q3⟩ := rows_ops (w' := V) (S := fun _ => False) hr
    refine wpList_append_own _ hgd s x 28 ho V.heap.size 54 i0 (.agg #[.int .i64 0, .int .i64 0, .int .i64 0, .int .i64 0]) 4 32 Tryz.underlying28 hi hz0 hz1 hz2 rfl (by decide) _ 0 [] hs hown ad d.length cap rows hx q3 (fun j u hj => ?_) q2 (by unfold maxLen; omega) (by omega) (by simp) (fun v' w1 hown' hgrow hnil => ?_)
    · have g0 := hc j u hj
      exact (World.cell?_of_block (Below.heap_alloc V (.cells #[] 54) _ (World.block_lt_of_cell? V _ g0))).trans g0
    · have hv : v' ≠ .slice none 0 0 := fun e => by have := (hnil.1 e).1; cases this
      have hown'' : w1.ownsRow V.heap.size 54 4 v' d.length rows := by simpa using hown'
      exact k v' w1 (made_ops (w := V) hr hown'' hgrow hv)
end Go.Proofs.YthbclkpmgcfdnaaGreatDoor
