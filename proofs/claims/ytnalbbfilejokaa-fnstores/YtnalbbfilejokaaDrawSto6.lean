/- The draws of a store and a way, and of two numbers, for the laws: they are drawn, and nothing that was there turns. Conditions: the bytes are at most 2^61. -/
import Derived.Test.YtnalbbfilejokaaDrawSto5
namespace Go.Proofs.Ytnalbbfilejokaa
open Go.ChangeShapes Go.WideShapes Go.ChangeAt Go.RowKit
set_option linter.unusedVariables false

def DrawGP (w : World) (e : Ending) (w' : World) : Prop :=
  ∃ (c : CacheD) (av : Option Addr) (cv : Nat) (bv : Option Addr) (dv : Nat) (v : WayD) (va : Option Addr) (vc : Nat), e = .returned (.tuple #[.agg #[.slice av c.1.length cv, .slice bv c.2.length dv], .agg #[.int .i64 v.1, .int .i64 v.2.1, .slice va v.2.2.length vc]]) ∧ SmallC c ∧ In64 v.1 ∧ In64 v.2.1 ∧ v.2.2.length ≤ 3 ∧ SlRd waysR w' av c.1 ∧ SlRd intR w' bv c.2 ∧ SlRd intR w' va v.2.2 ∧ Below w.heap.size w w'

theorem froz3 {w : World} {g : Nat} {cs : Array Value} {t : TypeId} (h : w.heap[g]? = some (.cells cs t (0, 0))) : w.frozen? ⟨g, 0, none⟩ = false ∧ w.frozen? ⟨g, 1, none⟩ = false ∧ w.frozen? ⟨g, 2, none⟩ = false := ⟨frozen_of_row w g 0 cs t h, frozen_of_row w g 1 cs t h, frozen_of_row w g 2 cs t h⟩
theorem dg_end {w w1 w2 W w4 : World} {c : CacheD} {av bv va : Option Addr} {vc : Nat} {v : WayD} {x y : Value} (hl : w.heap.size + 2 < w1.heap.size) (h2 : w1.heap.size ≤ w2.heap.size) (hW : w2.heap.size < W.heap.size) (hch : Chg (fun b => b = w.heap.size + 2) W w4) (hown : wayR.own w4 (rng W.heap.size w4.heap.size) [.int .i64 v.1, .int .i64 v.2.1, .slice va v.2.2.length vc] v)
    (HRD : ∀ W' : World, (∀ k, w1.heap.size < k → k < w2.heap.size → W'.heap[k]? = w2.heap[k]?) → SlRd waysR W' av c.1 ∧ SlRd intR W' bv c.2)
    (HW : ∀ k, w1.heap.size < k → k < w2.heap.size → W.heap[k]? = w2.heap[k]?) (BB : Below w.heap.size w W) :
    (In64 v.1 ∧ In64 v.2.1) ∧ (SlRd waysR (((((w4.setCell ⟨w.heap.size, 0, none⟩ x).setCell ⟨w.heap.size, 1, none⟩ y).setCell ⟨w.heap.size + 1, 0, none⟩ (.int .i64 v.1)).setCell ⟨w.heap.size + 1, 1, none⟩ (.int .i64 v.2.1)).setCell ⟨w.heap.size + 1, 2, none⟩ (.slice va v.2.2.length vc)) av c.1 ∧ SlRd intR (((((w4.setCell ⟨w.heap.size, 0, none⟩ x).setCell ⟨w.heap.size, 1, none⟩ y).setCell ⟨w.heap.size + 1, 0, none⟩ (.int .i64 v.1)).setCell ⟨w.heap.size + 1, 1, none⟩ (.int .i64 v.2.1)).setCell ⟨w.heap.size + 1, 2, none⟩ (.slice va v.2.2.length vc)) bv c.2) ∧ SlRd intR (((((w4.setCell ⟨w.heap.size, 0, none⟩ x).setCell ⟨w.heap.size, 1, none⟩ y).setCell ⟨w.heap.size + 1, 0, none⟩ (.int .i64 v.1)).setCell ⟨w.heap.size + 1, 1, none⟩ (.int .i64 v.2.1)).setCell ⟨w.heap.size + 1, 2, none⟩ (.slice va v.2.2.length vc)) va v.2.2 ∧ Below w.heap.size w (((((w4.setCell ⟨w.heap.size, 0, none⟩ x).setCell ⟨w.heap.size, 1, none⟩ y).setCell ⟨w.heap.size + 1, 0, none⟩ (.int .i64 v.1)).setCell ⟨w.heap.size + 1, 1, none⟩ (.int .i64 v.2.1)).setCell ⟨w.heap.size + 1, 2, none⟩ (.slice va v.2.2.length vc)) := by
  have hs := hch.size
  have c5 : Chg (fun k => k = w.heap.size ∨ k = w.heap.size + 1) w4 (((((w4.setCell ⟨w.heap.size, 0, none⟩ x).setCell ⟨w.heap.size, 1, none⟩ y).setCell ⟨w.heap.size + 1, 0, none⟩ (.int .i64 v.1)).setCell ⟨w.heap.size + 1, 1, none⟩ (.int .i64 v.2.1)).setCell ⟨w.heap.size + 1, 2, none⟩ (.slice va v.2.2.length vc)) := ((put2_chg (w := w4) (g := w.heap.size) (v0 := x) (v1 := y)).mono (fun k hk => .inl hk)).trans ((put3_chg (g := w.heap.size + 1) (v0 := .int .i64 v.1) (v1 := .int .i64 v.2.1) (v2 := .slice va v.2.2.length vc)).mono (fun k hk => .inr hk))
  have k1 := own_chg hown c5 (fun k h1 h3 => by have := h1.1; omega)
  obtain ⟨i1, i2, hs3⟩ := way_parts (wayR.own_rd k1)
  refine ⟨⟨i1, i2⟩, HRD _ (fun k h1 h3 => ?_), hs3, c5.below (hch.below BB (fun k hk => by omega) (by have := BB.size; omega)) (fun k hk => by omega) (by have := BB.size; omega)⟩
  rw [c5.block k (by omega) (by omega), hch.block k (by omega) (by omega)]
  exact HW k h1 h3

set_option maxRecDepth 20000 in
set_option maxHeartbeats 8000000 in
theorem drawFilled_any (a : Option Addr) (len cap : Nat) (zs : List Int) (w : World) (hr : Row8 w a len zs) :
    Calls Try.prog 8 #[.slice a len cap] w fun e w' => DrawGP w e w' := by
  have e1 : (w.alloc (.cells #[.slice none 0 0, .slice none 0 0] 27)).heap.size = w.heap.size + 1 := by simp
  have e2 : ((w.alloc (.cells #[.slice none 0 0, .slice none 0 0] 27)).alloc (.cells #[.int .i64 0, .int .i64 0, .slice none 0 0] 29)).heap.size = w.heap.size + 2 := by simp
  have R0 : ((w.alloc (.cells #[.slice none 0 0, .slice none 0 0] 27)).alloc (.cells #[.int .i64 0, .int .i64 0, .slice none 0 0] 29)).heap[w.heap.size]? = some (.cells #[.slice none 0 0, .slice none 0 0] 27 (0, 0)) := row_keep (box_below _ _) (heap_at w (.cells #[.slice none 0 0, .slice none 0 0] 27))
  have Q0 : ((w.alloc (.cells #[.slice none 0 0, .slice none 0 0] 27)).alloc (.cells #[.int .i64 0, .int .i64 0, .slice none 0 0] 29)).heap[w.heap.size + 1]? = some (.cells #[.int .i64 0, .int .i64 0, .slice none 0 0] 29 (0, 0)) := by rw [← e1]; exact heap_at _ (.cells #[.int .i64 0, .int .i64 0, .slice none 0 0] 29)
  have B0 : Below w.heap.size w ((w.alloc (.cells #[.slice none 0 0, .slice none 0 0] 27)).alloc (.cells #[.int .i64 0, .int .i64 0, .slice none 0 0] 29)) := below_step (box_below w (.cells #[.slice none 0 0, .slice none 0 0] 27)) (box_below _ (.cells #[.int .i64 0, .int .i64 0, .slice none 0 0] 29))
  have hr0 := row8_al (row8_al hr (.cells #[.slice none 0 0, .slice none 0 0] 27)) (.cells #[.int .i64 0, .int .i64 0, .slice none 0 0] 29)
  go_enter Try.func8, Try.ntmps8
  go_upto_region 1 with fail
  generalize (w.alloc (.cells #[.slice none 0 0, .slice none 0 0] 27)).alloc (.cells #[.int .i64 0, .int .i64 0, .slice none 0 0] 29) = V0 at R0 Q0 B0 hr0 e2 ⊢
  go_wp2_with fail
  refine (l1New_any _ _ _ zs _ hr0).mono ?_
  rintro e w1 ⟨rfl, hc1, hb1⟩
  rw [e2] at hc1 hb1 ⊢
  replace R0 := (hb1.block w.heap.size (by omega)).trans R0
  replace Q0 := (hb1.block (w.heap.size + 1) (by omega)).trans Q0
  replace B0 := B0.trans (hb1.mono (by omega))
  have hw1 := cur_lt hc1
  clear e1 e2 hr hr0 hb1
  go_wp2_with fail
  refine (l6DrawAny_any _ _ _ hc1).mono ?_
  rintro e w2 ⟨c, av, cv, bv, dv, rfl, hsm, hrd, hc2, hch⟩
  replace R0 := (hch.block w.heap.size (by omega) (by omega)).trans R0
  replace Q0 := (hch.block (w.heap.size + 1) (by omega) (by omega)).trans Q0
  replace B0 := hch.below B0 (fun k hk => by omega) B0.size
  have hs2 := hch.size
  have HRD : Hid _ := hrd
  clear hrd hc1 hch
  have C3 := cur_alloc hc2 (.cells #[.slice av c.1.length cv, .slice bv c.2.length dv] 27)
  have X := heap_at w2 (.cells #[.slice av c.1.length cv, .slice bv c.2.length dv] 27)
  replace R0 := row_keep (box_below w2 (.cells #[.slice av c.1.length cv, .slice bv c.2.length dv] 27)) R0
  replace Q0 := row_keep (box_below w2 (.cells #[.slice av c.1.length cv, .slice bv c.2.length dv] 27)) Q0
  replace B0 := below_step B0 (box_below w2 (.cells #[.slice av c.1.length cv, .slice bv c.2.length dv] 27))
  have HW := hw_alloc (w1 := w1) (w2 := w2) (fun k _ _ => rfl) (Nat.le_refl _) (.cells #[.slice av c.1.length cv, .slice bv c.2.length dv] 27)
  have hW : w2.heap.size < (w2.alloc (.cells #[.slice av c.1.length cv, .slice bv c.2.length dv] 27)).heap.size := by simp
  clear hc2
  go_upto_region 3 with fail
  generalize w2.alloc (.cells #[.slice av c.1.length cv, .slice bv c.2.length dv] 27) = W at C3 X R0 Q0 B0 HW hW ⊢
  obtain ⟨u0, u1⟩ := cells_two X
  obtain ⟨q0, q1⟩ := cells_two R0
  obtain ⟨f0, f1⟩ := froz2 R0
  obtain ⟨p0, p1, p2⟩ := cells_three Q0
  obtain ⟨g0, g1, g2⟩ := froz3 Q0
  have hne : w.heap.size ≠ w.heap.size + 1 := by omega
  have hne' : w.heap.size + 1 ≠ w.heap.size := by omega
  have hx0 : w.heap.size ≠ w2.heap.size := by omega
  have hx1 : w.heap.size + 1 ≠ w2.heap.size := by omega
  go_wp2
  go_region_with (go_at_call 38
                  refine (l6DrawWay_any (w.heap.size + 2) (w.heap.size + 2) _ (cur_drew C3)).mono ?_
                  rintro e w4 ⟨v, va, vc, rfl, hdl, DRW⟩
                  have hch := chg_drew DRW.chg
                  have HE : Hid _ := dg_end hw1 hs2 hW hch DRW.own HRD.out HW B0 (x := .slice av c.1.length cv) (y := .slice bv c.2.length dv)
                  have hs4 := hch.size
                  replace X := (hch.block w2.heap.size hW (by omega)).trans X
                  replace R0 := (hch.block w.heap.size (by omega) (by omega)).trans R0
                  replace Q0 := (hch.block (w.heap.size + 1) (by omega) (by omega)).trans Q0
                  clear u0 u1 q0 q1 f0 f1 p0 p1 p2 g0 g1 g2 DRW hch C3
                  obtain ⟨u0, u1⟩ := cells_two X
                  obtain ⟨q0, q1⟩ := cells_two R0
                  obtain ⟨f0, f1⟩ := froz2 R0
                  obtain ⟨p0, p1, p2⟩ := cells_three Q0
                  obtain ⟨g0, g1, g2⟩ := froz3 Q0)
  all_goals
    go_wp2
    have E := HE.out
    refine bodyPost_ret (v := .tuple #[.agg #[.slice av c.1.length cv, .slice bv c.2.length dv], .agg #[.int .i64 v.1, .int .i64 v.2.1, .slice va v.2.2.length vc]]) (by simp [results, Try.results8, go_sem, q0, q1, p0, p1, p2]) rfl ⟨c, av, cv, bv, dv, v, va, vc, rfl, hsm, E.1.1, E.1.2, hdl, E.2.1.1, E.2.1.2, E.2.2.1, E.2.2.2⟩

set_option maxHeartbeats 1000000 in
theorem l5DrawWays_rep (B g : Nat) (w : World) (hcur : Cur B w g) :
    Calls Try.prog 49 #[.pointer (some ⟨g, 0, none⟩)] w fun e w' => ∃ x : Int, e = .returned (.int .i64 x) ∧ Cur B w' g ∧ w.grownBy w' (some g) := by
  go_enter Try.func49, Try.ntmps49
  go_wp2_with fail
  refine (l1Once_small B g 12 _ hcur (by omega) (by omega)).mono ?_
  rintro e w1 ⟨x, rfl, hc1, hg1⟩
  have hgs := cur_lt hc1
  cases x
  · go_wp2_with fail
    refine (l1Below_small B g _ _ (cur_alloc hc1 _) (by omega) (by omega)).mono ?_
    rintro e w2 ⟨x, rfl, hx0, hx1, hc, hg⟩
    obtain ⟨v, -, hv⟩ := lit_four hg hgs x hx0 hx1
    go_wp2
    go_ret
    exact ⟨_, rfl, hc, grown_trans (grown_trans hg1 (World.grownBy_alloc _ _ _)) hg⟩
  · go_wp2_with fail
    refine (l1Below_small B g _ _ (cur_alloc hc1 _) (by omega) (by omega)).mono ?_
    rintro e w2 ⟨x, rfl, hx0, hx1, hc, hg⟩
    obtain ⟨v, -, hv⟩ := lit_four hg hgs x hx0 hx1
    go_wp2
    go_ret
    exact ⟨_, rfl, hc, grown_trans (grown_trans hg1 (World.grownBy_alloc _ _ _)) hg⟩

set_option maxHeartbeats 1000000 in
theorem drawNewCache_any (a : Option Addr) (len cap : Nat) (zs : List Int) (w : World) (hr : Row8 w a len zs) :
    Calls Try.prog 14 #[.slice a len cap] w fun e w' => ∃ x y : Int, e = .returned (.tuple #[.int .i64 x, .int .i64 y]) ∧ Below w.heap.size w w' := by
  go_enter Try.func14, Try.ntmps14
  go_wp2_with fail
  refine (l1New_any _ _ _ zs _ hr).mono ?_
  rintro e w1 ⟨rfl, hc1, hb1⟩
  go_wp2_with fail
  refine (l5DrawWays_rep _ _ _ hc1).mono ?_
  rintro e w2 ⟨x, rfl, hc2, hg2⟩
  have B2 := below_of_grown hb1 hg2
  clear hb1 hg2 hc1
  go_wp2_with fail
  refine (l5DrawWays_rep _ _ _ hc2).mono ?_
  rintro e w3 ⟨y, rfl, hc3, hg3⟩
  have B3 := below_of_grown B2 hg3
  clear B2 hg3 hc2 hc3
  go_wp2
  go_ret2
  exact ⟨x, y, rfl, B3⟩
end Go.Proofs.Ytnalbbfilejokaa
