/- The draw of a way: some way is drawn, in new memory, and nothing that was there turns but the cursor. Conditions: the bytes are at most 2^61. -/
import Derived.Test.YtnalbbfilejokaaDrawLn6
import Derived.Test.YtnalbbfilejokaaWayCopy
namespace Go.Proofs.Ytnalbbfilejokaa
open Go.ChangeShapes Go.WideShapes Go.ChangeAt Go.RowKit
set_option linter.unusedVariables false

theorem put3_chg {w : World} {g : Nat} {v0 v1 v2 : Value} : Chg (fun b => b = g) w (((w.setCell ⟨g, 0, none⟩ v0).setCell ⟨g, 1, none⟩ v1).setCell ⟨g, 2, none⟩ v2) := by
  have one : ∀ (w : World) (o : Nat) (v : Value), Chg (fun b => b = g) w (w.setCell ⟨g, o, none⟩ v) := fun w o v => ⟨rfl, rfl, rfl, by simp, fun j _ hj => heap_setCell_other w ⟨g, o, none⟩ j v hj⟩
  exact ((one w 0 v0).trans (one _ 1 v1)).trans (one _ 2 v2)
/-- A way that is being drawn: it lies in a box. -/
structure DWay (B g : Nat) (w wr : World) (rb mb : Nat) (u : WayD) (av : Option Addr) (cv : Nat) : Prop where
  box : wr.heap[mb]? = some (.cells #[.int .i64 u.1, .int .i64 u.2.1, .slice av u.2.2.length cv] 29 (0, 0))
  res : wr.heap[rb]? = some (.cells #[.int .i64 0, .int .i64 0, .slice none 0 0] 29 (0, 0))
  own : intsR.own wr (fun k => w.heap.size < k ∧ k ≠ mb ∧ k < wr.heap.size) [.slice av u.2.2.length cv] u.2.2
  in7 : In64 u.1 ∧ In64 u.2.1
  dl : u.2.2.length ≤ 3
  cur : Cur B wr g
  chg : Chg (fun b => b = g) w wr
  lt : w.heap.size = rb ∧ rb < mb ∧ mb < wr.heap.size ∧ g < w.heap.size ∧ B ≤ g
theorem dw_step {B g rb mb : Nat} {w wr w' : World} {u : WayD} {av : Option Addr} {cv : Nat} (h : DWay B g w wr rb mb u av cv) (hc : Chg (fun b => b = g) wr w') (hcur : Cur B w' g) : DWay B g w w' rb mb u av cv := by
  obtain ⟨l1, l2, l3, l4, l5⟩ := h.lt
  have hs := hc.size
  refine ⟨(hc.block mb (by omega) (by omega)).trans h.box, (hc.block rb (by omega) (by omega)).trans h.res, intsR.own_mono (own_chg h.own hc (fun j hj e => by have := hj.1; omega)) (fun k hk => ⟨hk.1, hk.2.1, by have := hk.2.2; omega⟩), h.in7, h.dl, hcur, h.chg.trans hc, l1, l2, by omega, l4, l5⟩
theorem dw_grown {B g rb mb : Nat} {w wr w' : World} {u : WayD} {av : Option Addr} {cv : Nat} (h : DWay B g w wr rb mb u av cv) (hg : wr.grownBy w' (some g)) (hcur : Cur B w' g) : DWay B g w w' rb mb u av cv := dw_step h (chg_grown hg rfl) hcur
theorem dw_alloc {B g rb mb : Nat} {w wr : World} {u : WayD} {av : Option Addr} {cv : Nat} (h : DWay B g w wr rb mb u av cv) (o : Obj) : DWay B g w (wr.alloc o) rb mb u av cv := dw_step h (chg_below (box_below wr o)) (cur_alloc h.cur o)
theorem dw_set0 {B g rb mb : Nat} {w wr : World} {u : WayD} {av : Option Addr} {cv : Nat} {x : Int} (h : DWay B g w wr rb mb u av cv) (hx : In64 x) : DWay B g w (wr.setCell ⟨mb, 0, none⟩ (.int .i64 x)) rb mb (x, u.2.1, u.2.2) av cv := by
  obtain ⟨l1, l2, l3, l4, l5⟩ := h.lt
  have c1 : Chg (fun b => b = mb) wr (wr.setCell ⟨mb, 0, none⟩ (.int .i64 x)) := ⟨rfl, rfl, rfl, by simp, fun j _ hj => heap_setCell_other wr ⟨mb, 0, none⟩ j _ hj⟩
  obtain ⟨n0, n1⟩ := h.in7
  refine ⟨heap_setCell_same wr mb 0 _ _ (.int .i64 x) h.box, (c1.block rb (by omega) (by omega)).trans h.res, intsR.own_mono (own_chg h.own c1 (fun j hj e => hj.2.1 e)) (fun k hk => ⟨hk.1, hk.2.1, by have := hk.2.2; have := c1.size; omega⟩), ⟨hx, n1⟩, h.dl, cur_chg h.cur c1 (fun k hk => by omega) (by omega), ?_, l1, l2, by have := c1.size; omega, l4, l5⟩
  exact ⟨c1.os.trans h.chg.os, c1.tape.trans h.chg.tape, c1.output.trans h.chg.output, Nat.le_trans h.chg.size c1.size, fun j hj hn => (c1.block j (by have := h.chg.size; omega) (by omega)).trans (h.chg.block j hj hn)⟩
theorem dw_set1 {B g rb mb : Nat} {w wr : World} {u : WayD} {av : Option Addr} {cv : Nat} {x : Int} (h : DWay B g w wr rb mb u av cv) (hx : In64 x) : DWay B g w (wr.setCell ⟨mb, 1, none⟩ (.int .i64 x)) rb mb (u.1, x, u.2.2) av cv := by
  obtain ⟨l1, l2, l3, l4, l5⟩ := h.lt
  have c1 : Chg (fun b => b = mb) wr (wr.setCell ⟨mb, 1, none⟩ (.int .i64 x)) := ⟨rfl, rfl, rfl, by simp, fun j _ hj => heap_setCell_other wr ⟨mb, 1, none⟩ j _ hj⟩
  obtain ⟨n0, n1⟩ := h.in7
  refine ⟨heap_setCell_same wr mb 1 _ _ (.int .i64 x) h.box, (c1.block rb (by omega) (by omega)).trans h.res, intsR.own_mono (own_chg h.own c1 (fun j hj e => hj.2.1 e)) (fun k hk => ⟨hk.1, hk.2.1, by have := hk.2.2; have := c1.size; omega⟩), ⟨n0, hx⟩, h.dl, cur_chg h.cur c1 (fun k hk => by omega) (by omega), ?_, l1, l2, by have := c1.size; omega, l4, l5⟩
  exact ⟨c1.os.trans h.chg.os, c1.tape.trans h.chg.tape, c1.output.trans h.chg.output, Nat.le_trans h.chg.size c1.size, fun j hj hn => (c1.block j (by have := h.chg.size; omega) (by omega)).trans (h.chg.block j hj hn)⟩
theorem dw_data {B g rb mb : Nat} {w wr : World} {u : WayD} {av a2 : Option Addr} {cv c2 : Nat} {d : List Int} (h : DWay B g w wr rb mb u av cv) (ho : intsR.own wr (fun k => w.heap.size < k ∧ k ≠ mb ∧ k < wr.heap.size) [.slice a2 d.length c2] d) (hd : d.length ≤ 3) : DWay B g w (wr.setCell ⟨mb, 2, none⟩ (.slice a2 d.length c2)) rb mb (u.1, u.2.1, d) a2 c2 := by
  obtain ⟨l1, l2, l3, l4, l5⟩ := h.lt
  have c1 : Chg (fun b => b = mb) wr (wr.setCell ⟨mb, 2, none⟩ (.slice a2 d.length c2)) := ⟨rfl, rfl, rfl, by simp, fun j _ hj => heap_setCell_other wr ⟨mb, 2, none⟩ j _ hj⟩
  refine ⟨heap_setCell_same wr mb 2 _ _ (.slice a2 d.length c2) h.box, (c1.block rb (by omega) (by omega)).trans h.res, intsR.own_mono (own_chg ho c1 (fun j hj e => hj.2.1 e)) (fun k hk => ⟨hk.1, hk.2.1, by have := hk.2.2; have := c1.size; omega⟩), h.in7, hd, cur_chg h.cur c1 (fun k hk => by omega) (by omega), ?_, l1, l2, by have := c1.size; omega, l4, l5⟩
  exact ⟨c1.os.trans h.chg.os, c1.tape.trans h.chg.tape, c1.output.trans h.chg.output, Nat.le_trans h.chg.size c1.size, fun j hj hn => (c1.block j (by have := h.chg.size; omega) (by omega)).trans (h.chg.block j hj hn)⟩
theorem dw_all {B g rb mb : Nat} {w wr : World} {u v : WayD} {av a2 : Option Addr} {cv c2 : Nat} (h : DWay B g w wr rb mb u av cv) (ho : intsR.own wr (fun k => w.heap.size < k ∧ k ≠ mb ∧ k < wr.heap.size) [.slice a2 v.2.2.length c2] v.2.2) (hd : v.2.2.length ≤ 3) (h1 : In64 v.1) (h2 : In64 v.2.1) :
    DWay B g w (((wr.setCell ⟨mb, 0, none⟩ (.int .i64 v.1)).setCell ⟨mb, 1, none⟩ (.int .i64 v.2.1)).setCell ⟨mb, 2, none⟩ (.slice a2 v.2.2.length c2)) rb mb v a2 c2 := by
  obtain ⟨l1, l2, l3, l4, l5⟩ := h.lt
  have c1 := put3_chg (w := wr) (g := mb) (v0 := .int .i64 v.1) (v1 := .int .i64 v.2.1) (v2 := .slice a2 v.2.2.length c2)
  refine ⟨put3 h.box, (c1.block rb (by omega) (by omega)).trans h.res, intsR.own_mono (own_chg ho c1 (fun j hj e => hj.2.1 e)) (fun k hk => ⟨hk.1, hk.2.1, by have := hk.2.2; have := c1.size; omega⟩), ⟨h1, h2⟩, hd, cur_chg h.cur c1 (fun k hk => by omega) (by omega), ?_, l1, l2, by have := c1.size; omega, l4, l5⟩
  exact ⟨c1.os.trans h.chg.os, c1.tape.trans h.chg.tape, c1.output.trans h.chg.output, Nat.le_trans h.chg.size c1.size, fun j hj hn => (c1.block j (by have := h.chg.size; omega) (by omega)).trans (h.chg.block j hj hn)⟩

/-- What the draw of a way leaves. -/
def DrawWP (B g : Nat) (w : World) (e : Ending) (w' : World) : Prop :=
  ∃ u av cv, e = .returned (.agg #[.int .i64 u.1, .int .i64 u.2.1, .slice av u.2.2.length cv]) ∧ u.2.2.length ≤ 3 ∧ DrewR wayR B g w w' [.int .i64 u.1, .int .i64 u.2.1, .slice av u.2.2.length cv] u
theorem dw_end {B g rb mb : Nat} {w wr : World} {u : WayD} {av : Option Addr} {cv : Nat} {a : Act} (h : DWay B g w wr rb mb u av cv) (ha : a.tmps[2]? = some (.pointer (some ⟨rb, 0, none⟩))) (hdf : a.defers = []) :
    bodyPost Try.prog Try.f38 (fun e w' => DrawWP B g w e w') Exit.ret a (((wr.setCell ⟨rb, 0, none⟩ (.int .i64 u.1)).setCell ⟨rb, 1, none⟩ (.int .i64 u.2.1)).setCell ⟨rb, 2, none⟩ (.slice av u.2.2.length cv)) := by
  obtain ⟨l1, l2, l3, l4, l5⟩ := h.lt
  obtain ⟨r0, r1, r2⟩ := cells_three (put3 (a := .int .i64 u.1) (b := .int .i64 u.2.1) (c := .slice av u.2.2.length cv) h.res)
  have c7 := put3_chg (w := wr) (g := rb) (v0 := .int .i64 u.1) (v1 := .int .i64 u.2.1) (v2 := .slice av u.2.2.length cv)
  generalize ((wr.setCell ⟨rb, 0, none⟩ (.int .i64 u.1)).setCell ⟨rb, 1, none⟩ (.int .i64 u.2.1)).setCell ⟨rb, 2, none⟩ (.slice av u.2.2.length cv) = W at r0 r1 r2 c7 ⊢
  have hs := c7.size
  obtain ⟨n0, n1⟩ := h.in7
  have k1 := own_chg h.own c7 (fun j hj e => by have := hj.1; omega)
  refine bodyPost_ret (v := .agg #[.int .i64 u.1, .int .i64 u.2.1, .slice av u.2.2.length cv]) (by simp [results, Try.results38, go_sem, ha, r0, r1, r2]) hdf ⟨u, av, cv, rfl, h.dl, own_way n0 n1 (intsR.own_mono k1 (fun k hk => ⟨by have := hk.1; omega, by have := hk.2.2; omega⟩)), cur_chg h.cur c7 (fun k hk => by omega) (by omega), ?_⟩
  exact ⟨c7.os.trans h.chg.os, c7.tape.trans h.chg.tape, c7.output.trans h.chg.output, Nat.le_trans h.chg.size c7.size, fun j hj hn => (c7.block j (by have := h.chg.size; omega) (by omega)).trans (h.chg.block j hj hn)⟩

set_option maxRecDepth 20000 in
set_option maxHeartbeats 4000000 in
theorem l6DrawWay_any (B g : Nat) (w : World) (hcur : Cur B w g) :
    Calls Try.prog 38 #[.pointer (some ⟨g, 0, none⟩)] w fun e w' => DrawWP B g w e w' := by
  have hgw := cur_lt hcur
  have hBg := hcur.1
  have C0 := cur_alloc hcur (.cells #[.int .i64 0, .int .i64 0, .slice none 0 0] 29)
  have X0 := heap_at w (.cells #[.int .i64 0, .int .i64 0, .slice none 0 0] 29)
  have G0 : Chg (fun b => b = g) w (w.alloc (.cells #[.int .i64 0, .int .i64 0, .slice none 0 0] 29)) := chg_below (box_below w _)
  have e0 : (w.alloc (.cells #[.int .i64 0, .int .i64 0, .slice none 0 0] 29)).heap.size ≥ w.heap.size + 1 := by simp
  go_enter Try.func38, Try.ntmps38
  go_wp2_with fail
  generalize w.alloc (.cells #[.int .i64 0, .int .i64 0, .slice none 0 0] 29) = W0 at C0 X0 G0 e0 ⊢
  refine (l1Below_small B g 8 _ C0 (by omega) (by omega)).mono ?_
  rintro e w1 ⟨x0, rfl, a0, b0, C1, g1⟩
  have z1 := g1.size
  replace X0 := (g1.block w.heap.size (by omega) (by simp; omega)).trans X0
  replace G0 := G0.trans (chg_grown (S := fun b => b = g) g1 rfl)
  clear C0 g1
  have C0 := C1
  clear C1
  go_wp2_with fail
  refine (l1Below_small B g 3 _ C0 (by omega) (by omega)).mono ?_
  rintro e w2 ⟨x1, rfl, a1, b1, C1, g1⟩
  have z2 := g1.size
  replace X0 := (g1.block w.heap.size (by omega) (by simp; omega)).trans X0
  replace G0 := G0.trans (chg_grown (S := fun b => b = g) g1 rfl)
  clear C0 g1
  have C0 := C1
  clear C1
  go_wp2_with fail
  refine (l3DrawLine_rep B g _ C0).mono ?_
  rintro e w3 ⟨gl, p, q, rfl, j1, h64, j2, j3, j4⟩
  have DR := drew_ints h64 j1 j2 j3 j4
  have z3 := j4.size
  replace X0 := (j4.block w.heap.size (by omega) (by simp; omega)).trans X0
  replace G0 := G0.trans (chg_grown (S := fun b => b = g) j4 rfl)
  have D0 : DWay B g w (w3.alloc (.cells #[.int .i64 x0, .int .i64 (1 + x1), .slice (some ⟨gl, 0, none⟩) 2 2] 29)) w.heap.size w3.heap.size (x0, 1 + x1, [p, q]) (some ⟨gl, 0, none⟩) 2 := by
    refine ⟨heap_at w3 _, heap_on _ X0, intsR.own_mono (own_box _ DR.own) (fun k hk => ⟨by have := hk.1; omega, by have := hk.2; omega, by have := hk.2; simp; omega⟩), ⟨small64 (x := x0) (by omega) (by omega), small64 (x := 1 + x1) (by omega) (by omega)⟩, by simp, cur_alloc j3 _, G0.trans (chg_below (box_below _ _)), rfl, by omega, by simp, hgw, hBg⟩
  clear X0 G0 C0 DR j1 j2 j3 j4 h64
  go_wp2_with fail
  generalize w3.alloc (.cells #[.int .i64 x0, .int .i64 (1 + x1), .slice (some ⟨gl, 0, none⟩) 2 2] 29) = W1 at D0 ⊢
  generalize w3.heap.size = mb at D0 ⊢
  have hu0 : ∃ u av cv, DWay B g w W1 w.heap.size mb u av cv := ⟨_, _, _, D0⟩
  clear D0
  obtain ⟨u, av, cv, D0⟩ := hu0
  have C0 := D0.cur
  have HD0 : Hid _ := D0
  clear D0
  refine (l1Once_small B g 14 _ C0 (by omega) (by omega)).mono ?_
  rintro e v2 ⟨b, rfl, C2, g2⟩
  have HD2 : Hid _ := dw_grown HD0.out g2 C2
  clear C0 g2 HD0
  cases b
  · have HD : Hid _ := HD2.out
    clear HD2 C2
    obtain ⟨m0, m1, m2⟩ := cells_three HD.out.box
    obtain ⟨r0, r1, r2⟩ := cells_three HD.out.res
    obtain ⟨q0, q1, q2⟩ := cells_froz HD.out.res
    go_wp2
    exact dw_end (u := u) HD.out rfl rfl
  · go_wp2_with fail
    refine (l1Below_small B g 4 _ C2 (by omega) (by omega)).mono ?_
    rintro e v3 ⟨k, rfl, k0, k1, C3, g3⟩
    have HD3 : Hid _ := dw_grown HD2.out g3 C3
    clear C2 g3 HD2
    obtain rfl | rfl | rfl | rfl : k = 0 ∨ k = 1 ∨ k = 2 ∨ k = 3 := by omega
    · have hgs := cur_lt C3
      go_wp2_with fail
      refine (l1Below_small B g 3 _ (cur_alloc C3 _) (by omega) (by omega)).mono ?_
      rintro e v4 ⟨k, rfl, k0, k1, C4, g4⟩
      obtain ⟨y, hy, hy64⟩ := lit_cellP (n := 3) g4 hgs k k0 k1 (by
        intro j hj
        obtain rfl | rfl | rfl : j = 0 ∨ j = 1 ∨ j = 2 := by omega
        all_goals exact ⟨_, rfl, by decide, by decide⟩)
      have D4 := dw_grown (dw_alloc HD3.out _) g4 C4
      have HD : Hid (DWay B g w (v4.setCell ⟨mb, 0, none⟩ (.int .i64 y)) w.heap.size mb (y, u.2.1, u.2.2) av cv) := dw_set0 D4 hy64
      obtain ⟨m0, m1, m2⟩ := cells_three D4.box
      obtain ⟨s0, s1, s2⟩ := cells_froz D4.box
      obtain ⟨r0, r1, r2⟩ := cells_three D4.res
      obtain ⟨q0, q1, q2⟩ := cells_froz D4.res
      have hlt := D4.lt
      have hlt2 : ¬ w.heap.size = mb := by omega
      have hlt3 : ¬ mb = w.heap.size := by omega
      clear hlt
      clear D4 C4 g4 C3 HD3 hy64
      go_wp2
      exact dw_end (u := (y, u.2.1, u.2.2)) HD.out rfl rfl
    · go_wp2_with fail
      refine (l1From_small B g (-1) 6 _ C3 (by omega) (by omega) (by omega) (by omega)).mono ?_
      rintro e v4 ⟨y, rfl, k0, k1, C4, g4⟩
      have hy64 : In64 y := small64 (by omega) (by omega)
      have D4 := dw_grown HD3.out g4 C4
      have HD : Hid (DWay B g w (v4.setCell ⟨mb, 1, none⟩ (.int .i64 y)) w.heap.size mb (u.1, y, u.2.2) av cv) := dw_set1 D4 hy64
      obtain ⟨m0, m1, m2⟩ := cells_three D4.box
      obtain ⟨s0, s1, s2⟩ := cells_froz D4.box
      obtain ⟨r0, r1, r2⟩ := cells_three D4.res
      obtain ⟨q0, q1, q2⟩ := cells_froz D4.res
      have hlt := D4.lt
      have hlt2 : ¬ w.heap.size = mb := by omega
      have hlt3 : ¬ mb = w.heap.size := by omega
      clear hlt
      clear D4 C4 g4 C3 HD3 hy64
      go_wp2
      exact dw_end (u := (u.1, y, u.2.2)) HD.out rfl rfl
    · go_wp2_with fail
      refine (l3DrawAny_rep B g _ C3).mono ?_
      rintro e v4 ⟨vv, xs, rfl, hx3, h64, gl, cl, rfl, j1, j2, j3, j4⟩
      have DR := drew_ints h64 j1 j2 j3 j4
      have D4 := dw_grown HD3.out j4 j3
      have HD : Hid (DWay B g w (v4.setCell ⟨mb, 2, none⟩ (.slice (some ⟨gl, 0, none⟩) xs.length cl)) w.heap.size mb (u.1, u.2.1, xs) (some ⟨gl, 0, none⟩) cl) := dw_data D4 (intsR.own_mono DR.own (fun k hk => ⟨by have := hk.1; have := HD3.out.lt; omega, by have := hk.1; have := HD3.out.lt; omega, hk.2⟩)) hx3
      obtain ⟨m0, m1, m2⟩ := cells_three D4.box
      obtain ⟨s0, s1, s2⟩ := cells_froz D4.box
      obtain ⟨r0, r1, r2⟩ := cells_three D4.res
      obtain ⟨q0, q1, q2⟩ := cells_froz D4.res
      have hlt := D4.lt
      have hlt2 : ¬ w.heap.size = mb := by omega
      have hlt3 : ¬ mb = w.heap.size := by omega
      clear hlt
      clear D4 DR j1 j2 j3 j4 C3 HD3 h64
      go_wp2
      exact dw_end (u := (u.1, u.2.1, xs)) HD.out rfl rfl
    · go_wp2_with fail
      refine (l6Empty_any _).mono ?_
      rintro e v4 ⟨ae, ce, rfl, mm⟩
      have D4 := dw_step HD3.out (chg_below mm.2) (cur_chg (S := fun _ => False) C3 (chg_below mm.2) (fun _ h => h.elim) (by have := HD3.out.lt; have := HD3.out.chg.size; omega))
      have HD : Hid (DWay B g w (((v4.setCell ⟨mb, 0, none⟩ (.int .i64 (-1))).setCell ⟨mb, 1, none⟩ (.int .i64 0)).setCell ⟨mb, 2, none⟩ (.slice ae 0 ce)) w.heap.size mb ((-1), 0, []) ae ce) := dw_all (v := ((-1), 0, [])) D4 (intsR.own_mono (way_intsd (l := -1) (s := 0) (l' := -1) (s' := 0) (d := []) mm.1) (fun k hk => ⟨by have := hk.1; have := HD3.out.lt; omega, by have := hk.1; have := HD3.out.lt; omega, hk.2⟩)) (by simp) (small64 (x := -1) (by omega) (by omega)) (small64 (x := 0) (by omega) (by omega))
      obtain ⟨m0, m1, m2⟩ := cells_three D4.box
      obtain ⟨s0, s1, s2⟩ := cells_froz D4.box
      obtain ⟨r0, r1, r2⟩ := cells_three D4.res
      obtain ⟨q0, q1, q2⟩ := cells_froz D4.res
      have hlt := D4.lt
      have hlt2 : ¬ w.heap.size = mb := by omega
      have hlt3 : ¬ mb = w.heap.size := by omega
      clear hlt
      clear D4 mm C3 HD3
      go_wp2
      exact dw_end (u := ((-1), 0, [])) HD.out rfl rfl
end Go.Proofs.Ytnalbbfilejokaa
