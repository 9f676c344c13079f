/- The draws of stores for the laws: some store and some number or way are drawn, and nothing that was there turns. Conditions: the bytes are at most 2^61. -/
import Derived.Test.YtnalbbfilejokaaDrawSto4
namespace Go.Proofs.Ytnalbbfilejokaa
open Go.ChangeShapes Go.WideShapes Go.ChangeAt Go.RowKit
set_option linter.unusedVariables false

theorem row8_al {w : World} {a : Option Addr} {len : Nat} {zs : List Int} (h : Row8 w a len zs) (o : Obj) : Row8 (w.alloc o) a len zs := row8_below h ((Below.refl _ _).alloc (Nat.le_refl _) o)
/-- What is read stays, whatever becomes of what was there, and what was there stays. -/
def DF (w Z : World) (c : CacheD) (av bv : Option Addr) : Prop := (∀ W' : World, (∀ k, w.heap.size < k → k < Z.heap.size → W'.heap[k]? = Z.heap[k]?) → SlRd waysR W' av c.1 ∧ SlRd intR W' bv c.2) ∧ Below w.heap.size w Z
/-- What the draw of a store and a number leaves. -/
def DrawFP (w : World) (e : Ending) (w' : World) : Prop :=
  ∃ c av cv bv dv l, e = .returned (.tuple #[.agg #[.slice av c.1.length cv, .slice bv c.2.length dv], .int .i64 l]) ∧ SmallC c ∧ In64 l ∧ DF w w' c av bv
theorem df_put {w w1 w2 W : World} {c : CacheD} {av bv : Option Addr} {x y : Value} (hl : w.heap.size < w1.heap.size) (h2 : w2.heap.size ≤ W.heap.size) (HRD : ∀ W' : World, (∀ k, w1.heap.size < k → k < w2.heap.size → W'.heap[k]? = w2.heap[k]?) → SlRd waysR W' av c.1 ∧ SlRd intR W' bv c.2)
    (HW : ∀ k, w1.heap.size < k → k < w2.heap.size → W.heap[k]? = w2.heap[k]?) (BB : Below w.heap.size w W) : DF w ((W.setCell ⟨w.heap.size, 0, none⟩ x).setCell ⟨w.heap.size, 1, none⟩ y) c av bv := by
  have c7 := put2_chg (w := W) (g := w.heap.size) (v0 := x) (v1 := y)
  have hz := c7.size
  exact ⟨fun W' hk => HRD W' (fun k h1 h3 => (hk k (by omega) (by omega)).trans ((c7.block k (by omega) (by omega)).trans (HW k h1 h3))), c7.below BB (fun k hk => by omega) BB.size⟩
theorem df_ret {w Z : World} {c : CacheD} {av bv : Option Addr} {cv dv : Nat} {l : Int} (hsm : SmallC c) (hl : In64 l) (E : DF w Z c av bv) : DrawFP w (.returned (.tuple #[.agg #[.slice av c.1.length cv, .slice bv c.2.length dv], .int .i64 l])) Z := ⟨c, av, cv, bv, dv, l, rfl, hsm, hl, E⟩
theorem df_alloc {w Z : World} {c : CacheD} {av bv : Option Addr} (h : DF w Z c av bv) (o : Obj) : DF w (Z.alloc o) c av bv :=
  ⟨fun W' hk => h.1 W' (fun k h1 h2 => (hk k h1 (by simp; omega)).trans (Below.heap_alloc Z o k h2)), h.2.alloc h.2.size o⟩
theorem hw_grown {w1 w2 W W' : World} {g : Nat} (HW : ∀ k, w1.heap.size < k → k < w2.heap.size → W.heap[k]? = w2.heap[k]?) (hg : W.grownBy W' (some g)) (hgl : g < w1.heap.size) (h2 : w2.heap.size ≤ W.heap.size) : ∀ k, w1.heap.size < k → k < w2.heap.size → W'.heap[k]? = w2.heap[k]? :=
  fun k h1 h3 => (hg.block k (by omega) (by simp; omega)).trans (HW k h1 h3)
theorem hw_alloc {w1 w2 W : World} (HW : ∀ k, w1.heap.size < k → k < w2.heap.size → W.heap[k]? = w2.heap[k]?) (h2 : w2.heap.size ≤ W.heap.size) (o : Obj) : ∀ k, w1.heap.size < k → k < w2.heap.size → (W.alloc o).heap[k]? = w2.heap[k]? :=
  fun k h1 h3 => (Below.heap_alloc W o k (by omega)).trans (HW k h1 h3)

set_option maxRecDepth 20000 in
set_option maxHeartbeats 8000000 in
theorem drawFind_any (a : Option Addr) (len cap : Nat) (zs : List Int) (w : World) (hr : Row8 w a len zs) :
    Calls Try.prog 12 #[.slice a len cap] w fun e w' => DrawFP w e w' := by
  go_enter Try.func12, Try.ntmps12
  go_wp2_with fail
  refine (l1New_any _ _ _ zs _ (row8_al hr _)).mono ?_
  rintro e w1 ⟨rfl, hc1, hb1⟩
  rw [alloc_len] at hc1 hb1
  have R1 := (hb1.block w.heap.size (by omega)).trans (heap_at w (.cells #[.slice none 0 0, .slice none 0 0] 27))
  have B1 := (box_below w (.cells #[.slice none 0 0, .slice none 0 0] 27)).trans (hb1.mono (by omega))
  have hw1 := cur_lt hc1
  go_wp2_with fail
  refine (l6DrawAny_any _ _ _ hc1).mono ?_
  rintro e w2 ⟨c, av, cv, bv, dv, rfl, hsm, hrd, hc2, hch⟩
  have R2 := (hch.block w.heap.size (by omega) (by omega)).trans R1
  have B2 := hch.below B1 (fun k hk => by omega) B1.size
  have hs2 := hch.size
  have HRD : Hid _ := hrd
  clear hrd R1 B1 hb1 hc1 hch hr
  have hn2 : w.heap.size < w2.heap.size := by omega
  have hz : w.heap.size ≠ w2.heap.size := by omega
  have hne : w.heap.size ≠ w.heap.size + 1 := by omega
  have hnx : w2.heap.size ≠ w.heap.size + 1 := by omega
  have hgl : w.heap.size + 1 < w1.heap.size := hw1
  have hwl : w.heap.size < w1.heap.size := by omega
  go_wp2_with fail
  refine (l1Once_small (w.heap.size + 1) (w.heap.size + 1) 10 _ (cur_alloc hc2 _) (by omega) (by omega)).mono ?_
  rintro e W ⟨b, rfl, hc, hg⟩
  have R := rowG hg hne (row_keep (box_below w2 (.cells #[.slice av c.1.length cv, .slice bv c.2.length dv] 27)) R2)
  have X := rowG hg hnx (heap_at w2 (.cells #[.slice av c.1.length cv, .slice bv c.2.length dv] 27))
  have B0 := (B2.alloc B2.size (.cells #[.slice av c.1.length cv, .slice bv c.2.length dv] 27)).grown hg (by simp; omega) (by intro k hk; cases hk; omega)
  have HW := hw_grown (hw_alloc (w1 := w1) (fun k _ _ => rfl) (Nat.le_refl _) (.cells #[.slice av c.1.length cv, .slice bv c.2.length dv] 27)) hg hgl (by simp)
  have hW : w2.heap.size < W.heap.size := ltR X
  have hwW : w.heap.size ≠ W.heap.size := by omega
  have hwW' : W.heap.size ≠ w.heap.size := by omega
  have h2W : w2.heap.size ≤ W.heap.size := by omega
  clear hc2 R2 B2 hg
  obtain ⟨q0, q1⟩ := cells_two R
  obtain ⟨f0, f1⟩ := froz2 R
  obtain ⟨u0, u1⟩ := cells_two X
  cases b
  · go_wp2
    go_region_with (go_at_call 47
                    refine (l1Below_small (w.heap.size + 1) (w.heap.size + 1) _ _ (cur_drew hc) (by omega) (by omega)).mono ?_
                    rintro e w' ⟨z, rfl, hx0, hx1, hc', hgd⟩
                    have hg : W.grownBy w' (some (w.heap.size + 1)) := ⟨hgd.os, hgd.tape, hgd.output, hgd.size, hgd.block⟩
                    have BB := B0.grown hg B0.size (by intro k hk; cases hk; omega)
                    replace R := rowG hg hne R
                    replace X := rowG hg hnx X
                    have HW2 := hw_grown HW hg hgl h2W
                    have h2w : w2.heap.size ≤ w'.heap.size := Nat.le_trans h2W hg.size
                    clear q0 q1 f0 f1 u0 u1 hc hg hgd hc'
                    obtain ⟨q0, q1⟩ := cells_two R
                    obtain ⟨f0, f1⟩ := froz2 R
                    obtain ⟨u0, u1⟩ := cells_two X)
    all_goals
      go_wp2
      have E := df_put (x := .slice av c.1.length cv) (y := .slice bv c.2.length dv) hwl h2w HRD.out HW2 BB
      exact bodyPost_ret (v := .tuple #[.agg #[.slice av c.1.length cv, .slice bv c.2.length dv], .int .i64 z]) (by simp [results, Try.results12, go_sem, q0, q1]) rfl ⟨c, av, cv, bv, dv, z, rfl, hsm, small64 (by omega) (by omega), E⟩
  · go_wp2
    go_region_with (go_at_call 47
                    first
                    | (refine (l1Below_small (w.heap.size + 1) (w.heap.size + 1) _ _ (cur_drew hc) (by omega) (by omega)).mono ?_
                       rintro e w' ⟨z, rfl, hx0, hx1, hc', hgd⟩
                       have hg : W.grownBy w' (some (w.heap.size + 1)) := ⟨hgd.os, hgd.tape, hgd.output, hgd.size, hgd.block⟩
                       have BB := B0.grown hg B0.size (by intro k hk; cases hk; omega)
                       replace R := rowG hg hne R
                       replace X := rowG hg hnx X
                       have HW2 := hw_grown HW hg hgl h2W
                       have h2w : w2.heap.size ≤ w'.heap.size := Nat.le_trans h2W hg.size
                       clear q0 q1 f0 f1 u0 u1 hc hg hgd hc'
                       obtain ⟨q0, q1⟩ := cells_two R
                       obtain ⟨f0, f1⟩ := froz2 R
                       obtain ⟨u0, u1⟩ := cells_two X
                       have hw2 : w.heap.size ≠ w'.heap.size := Nat.ne_of_lt (ltR R)
                       have hw2' : w'.heap.size ≠ w.heap.size := Ne.symm hw2
                       have hw3 : w.heap.size < w'.heap.size := ltR R
                       have hw4 : w2.heap.size < w'.heap.size := ltR X
                       obtain ⟨v, hv, hva⟩ := arr_four (-1) 16 4611686018427387904 (-9223372036854775808) z hx0 hx1
                       have hv64 : In64 v := by constructor <;> omega
                       have hvc := (cell_of_row _ w'.heap.size z.toNat _ 2 (0, 0) (heap_alloc_new w' (.cells #[.int .i64 (-1), .int .i64 16, .int .i64 4611686018427387904, .int .i64 (-9223372036854775808)] 2))).trans hva
                       clear hv)
                    | (refine (l1Below_small (w.heap.size + 1) (w.heap.size + 1) _ _ (cur_drew (cur_alloc hc (.cells #[.int .i64 (-1), .int .i64 16, .int .i64 4611686018427387904, .int .i64 (-9223372036854775808)] 2))) (by omega) (by omega)).mono ?_
                       rintro e w' ⟨z, rfl, hx0, hx1, hc', hgd⟩
                       have hg : (W.alloc (.cells #[.int .i64 (-1), .int .i64 16, .int .i64 4611686018427387904, .int .i64 (-9223372036854775808)] 2)).grownBy w' (some (w.heap.size + 1)) := ⟨hgd.os, hgd.tape, hgd.output, hgd.size, hgd.block⟩
                       obtain ⟨v, hv, hvc⟩ := lit_four hg (cur_lt hc) z hx0 hx1
                       have hv64 : In64 v := by constructor <;> omega
                       have BA := B0.alloc B0.size (.cells #[.int .i64 (-1), .int .i64 16, .int .i64 4611686018427387904, .int .i64 (-9223372036854775808)] 2)
                       have BB := BA.grown hg BA.size (by intro k hk; cases hk; omega)
                       replace R := rowG hg hne (row_keep (box_below W (.cells #[.int .i64 (-1), .int .i64 16, .int .i64 4611686018427387904, .int .i64 (-9223372036854775808)] 2)) R)
                       replace X := rowG hg hnx (row_keep (box_below W (.cells #[.int .i64 (-1), .int .i64 16, .int .i64 4611686018427387904, .int .i64 (-9223372036854775808)] 2)) X)
                       have hsa : w2.heap.size ≤ (W.alloc (.cells #[.int .i64 (-1), .int .i64 16, .int .i64 4611686018427387904, .int .i64 (-9223372036854775808)] 2)).heap.size := by simp; omega
                       have HW2 := hw_grown (hw_alloc HW h2W (.cells #[.int .i64 (-1), .int .i64 16, .int .i64 4611686018427387904, .int .i64 (-9223372036854775808)] 2)) hg hgl hsa
                       have h2w : w2.heap.size ≤ w'.heap.size := Nat.le_trans hsa hg.size
                       clear q0 q1 f0 f1 u0 u1 hc hg hgd hc' hv BA hsa
                       obtain ⟨q0, q1⟩ := cells_two R
                       obtain ⟨f0, f1⟩ := froz2 R
                       obtain ⟨u0, u1⟩ := cells_two X
                       have hw3 : w.heap.size < w'.heap.size := ltR R))
    all_goals
      go_wp2
      have E := df_put (x := .slice av c.1.length cv) (y := .slice bv c.2.length dv) hwl h2w HRD.out HW2 BB
      refine bodyPost_ret (v := .tuple #[.agg #[.slice av c.1.length cv, .slice bv c.2.length dv], .int .i64 v]) (by first | (simp [results, Try.results12, go_sem, q0, q1]; done) | (simp [results, Try.results12, go_sem, q0, q1, hw3]; try exact get_four hva)) rfl ?_
      first
        | with_reducible exact df_ret hsm hv64 E
        | (replace E := df_alloc E (.cells #[.int .i64 (-1), .int .i64 16, .int .i64 4611686018427387904, .int .i64 (-9223372036854775808)] 2)
           with_reducible exact df_ret hsm hv64 E)

set_option maxHeartbeats 2000000 in
theorem drawLeaves_any (a : Option Addr) (len cap : Nat) (zs : List Int) (w : World) (hr : Row8 w a len zs) :
    Calls Try.prog 24 #[.slice a len cap] w fun e w' => DrawFP w e w' := by
  go_enter Try.func24, Try.ntmps24
  go_wp2_with fail
  refine (drawFind_any _ _ _ zs _ (row8_al hr _)).mono ?_
  rintro e w1 ⟨c, av, cv, bv, dv, l, rfl, hsm, hl, hdf⟩
  have hb := hdf.2
  rw [alloc_len] at hb
  have R := (hb.block w.heap.size (by omega)).trans (heap_at w (.cells #[.slice none 0 0, .slice none 0 0] 27))
  have BB := (box_below w (.cells #[.slice none 0 0, .slice none 0 0] 27)).trans (hb.mono (by omega))
  have E := df_put (x := .slice av c.1.length cv) (y := .slice bv c.2.length dv) (w1 := w.alloc (.cells #[.slice none 0 0, .slice none 0 0] 27)) (w2 := w1) (W := w1) (by simp) (Nat.le_refl _) hdf.1 (fun _ _ _ => rfl) BB
  have HE : Hid _ := E
  clear E hdf hb BB hr
  obtain ⟨q0, q1⟩ := cells_two R
  obtain ⟨f0, f1⟩ := froz2 R
  clear R
  go_wp2
  exact bodyPost_ret (v := .tuple #[.agg #[.slice av c.1.length cv, .slice bv c.2.length dv], .int .i64 l]) (by simp [results, Try.results24, go_sem, q0, q1]) rfl ⟨c, av, cv, bv, dv, l, rfl, hsm, hl, HE.out⟩

set_option maxHeartbeats 2000000 in
theorem drawDropped_any (a : Option Addr) (len cap : Nat) (zs : List Int) (w : World) (hr : Row8 w a len zs) :
    Calls Try.prog 10 #[.slice a len cap] w fun e w' => DrawFP w e w' := by
  go_enter Try.func10, Try.ntmps10
  go_wp2_with fail
  refine (drawFind_any _ _ _ zs _ (row8_al hr _)).mono ?_
  rintro e w1 ⟨c, av, cv, bv, dv, l, rfl, hsm, hl, hdf⟩
  have hb := hdf.2
  rw [alloc_len] at hb
  have R := (hb.block w.heap.size (by omega)).trans (heap_at w (.cells #[.slice none 0 0, .slice none 0 0] 27))
  have BB := (box_below w (.cells #[.slice none 0 0, .slice none 0 0] 27)).trans (hb.mono (by omega))
  have E := df_put (x := .slice av c.1.length cv) (y := .slice bv c.2.length dv) (w1 := w.alloc (.cells #[.slice none 0 0, .slice none 0 0] 27)) (w2 := w1) (W := w1) (by simp) (Nat.le_refl _) hdf.1 (fun _ _ _ => rfl) BB
  have HE : Hid _ := E
  clear E hdf hb BB hr
  obtain ⟨q0, q1⟩ := cells_two R
  obtain ⟨f0, f1⟩ := froz2 R
  clear R
  go_wp2
  exact bodyPost_ret (v := .tuple #[.agg #[.slice av c.1.length cv, .slice bv c.2.length dv], .int .i64 l]) (by simp [results, Try.results10, go_sem, q0, q1]) rfl ⟨c, av, cv, bv, dv, l, rfl, hsm, hl, HE.out⟩
end Go.Proofs.Ytnalbbfilejokaa
