/- The draw of a letter: some letter is drawn, in new memory, and nothing that was there turns but the cursor. Conditions: the bytes are at most 2^61. -/
import Derived.Test.YtfflmbpjolgghaaDrawLn
import Derived.Test.YtfflmbpjolgghaaTakeOne
namespace Go.Proofs.Ytfflmbpjolgghaa
open Go.ChangeShapes Go.WideShapes Go.ChangeAt Go.RowKit
set_option linter.unusedVariables false

def In7 (u : MsgD) : Prop := In64 u.1 ∧ In64 u.2.1 ∧ In64 u.2.2.1 ∧ In64 u.2.2.2.1 ∧ In64 u.2.2.2.2.1 ∧ In64 u.2.2.2.2.2.2
/-- A letter that is being drawn: it lies in a box. -/
structure DMsg (B g : Nat) (w wr : World) (rb mb : Nat) (u : MsgD) (av : Option Addr) (cv : Nat) : Prop where
  box : wr.heap[mb]? = some (.cells #[.int .i64 u.1, .int .i64 u.2.1, .int .i64 u.2.2.1, .int .i64 u.2.2.2.1, .int .i64 u.2.2.2.2.1, .slice av u.2.2.2.2.2.1.length cv, .int .i64 u.2.2.2.2.2.2] 27 (0, 0))
  res : wr.heap[rb]? = some (.cells #[.int .i64 0, .int .i64 0, .int .i64 0, .int .i64 0, .int .i64 0, .slice none 0 0, .int .i64 0] 27 (0, 0))
  own : intsR.own wr (fun k => mb < k ∧ k < wr.heap.size) [.slice av u.2.2.2.2.2.1.length cv] u.2.2.2.2.2.1
  in7 : In7 u
  dl : u.2.2.2.2.2.1.length ≤ 3
  cur : Cur B wr g
  chg : Chg (fun b => b = g) w wr
  lt : w.heap.size ≤ rb ∧ rb < mb ∧ mb < wr.heap.size ∧ g < w.heap.size ∧ B ≤ g
theorem dm_step {B g rb mb : Nat} {w wr w' : World} {u : MsgD} {av : Option Addr} {cv : Nat} (h : DMsg B g w wr rb mb u av cv) (hc : Chg (fun b => b = g) wr w') (hcur : Cur B w' g) : DMsg B g w w' rb mb u av cv := by
  obtain ⟨l1, l2, l3, l4, l5⟩ := h.lt
  have hs := hc.size
  refine ⟨(hc.block mb (by omega) (by omega)).trans h.box, (hc.block rb (by omega) (by omega)).trans h.res, intsR.own_mono (own_chg h.own hc (fun j hj e => by have := hj.1; omega)) (fun k hk => ⟨hk.1, by have := hk.2; omega⟩), h.in7, h.dl, hcur, h.chg.trans hc, l1, l2, by omega, l4, l5⟩
theorem dm_grown {B g rb mb : Nat} {w wr w' : World} {u : MsgD} {av : Option Addr} {cv : Nat} (h : DMsg B g w wr rb mb u av cv) (hg : wr.grownBy w' (some g)) (hcur : Cur B w' g) : DMsg B g w w' rb mb u av cv := dm_step h (chg_grown hg rfl) hcur
theorem dm_alloc {B g rb mb : Nat} {w wr : World} {u : MsgD} {av : Option Addr} {cv : Nat} (h : DMsg B g w wr rb mb u av cv) (o : Obj) : DMsg B g w (wr.alloc o) rb mb u av cv := dm_step h (chg_below (box_below wr o)) (cur_alloc h.cur o)
theorem dm_set0 {B g rb mb : Nat} {w wr : World} {u : MsgD} {av : Option Addr} {cv : Nat} {x : Int} (h : DMsg B g w wr rb mb u av cv) (hx : In64 x) : DMsg B g w (wr.setCell ⟨mb, 0, none⟩ (.int .i64 x)) rb mb (x, u.2.1, u.2.2.1, u.2.2.2.1, u.2.2.2.2.1, u.2.2.2.2.2.1, u.2.2.2.2.2.2) av cv := by
  obtain ⟨l1, l2, l3, l4, l5⟩ := h.lt
  have c1 : Chg (fun b => b = mb) wr (wr.setCell ⟨mb, 0, none⟩ (.int .i64 x)) := ⟨rfl, rfl, rfl, by simp, fun j _ hj => heap_setCell_other wr ⟨mb, 0, none⟩ j _ hj⟩
  obtain ⟨n0, n1, n2, n3, n4, n6⟩ := h.in7
  refine ⟨heap_setCell_same wr mb 0 _ _ (.int .i64 x) h.box, (c1.block rb (by omega) (by omega)).trans h.res, intsR.own_mono (own_chg h.own c1 (fun j hj e => by have := hj.1; omega)) (fun k hk => ⟨hk.1, by have := hk.2; have := c1.size; omega⟩), ⟨hx, n1, n2, n3, n4, n6⟩, h.dl, cur_chg h.cur c1 (fun k hk => by omega) (by omega), ?_, l1, l2, by have := c1.size; omega, l4, l5⟩
  exact ⟨c1.os.trans h.chg.os, c1.tape.trans h.chg.tape, c1.output.trans h.chg.output, Nat.le_trans h.chg.size c1.size, fun j hj hn => (c1.block j (by have := h.chg.size; omega) (by omega)).trans (h.chg.block j hj hn)⟩
theorem dm_set1 {B g rb mb : Nat} {w wr : World} {u : MsgD} {av : Option Addr} {cv : Nat} {x : Int} (h : DMsg B g w wr rb mb u av cv) (hx : In64 x) : DMsg B g w (wr.setCell ⟨mb, 1, none⟩ (.int .i64 x)) rb mb (u.1, x, u.2.2.1, u.2.2.2.1, u.2.2.2.2.1, u.2.2.2.2.2.1, u.2.2.2.2.2.2) av cv := by
  obtain ⟨l1, l2, l3, l4, l5⟩ := h.lt
  have c1 : Chg (fun b => b = mb) wr (wr.setCell ⟨mb, 1, none⟩ (.int .i64 x)) := ⟨rfl, rfl, rfl, by simp, fun j _ hj => heap_setCell_other wr ⟨mb, 1, none⟩ j _ hj⟩
  obtain ⟨n0, n1, n2, n3, n4, n6⟩ := h.in7
  refine ⟨heap_setCell_same wr mb 1 _ _ (.int .i64 x) h.box, (c1.block rb (by omega) (by omega)).trans h.res, intsR.own_mono (own_chg h.own c1 (fun j hj e => by have := hj.1; omega)) (fun k hk => ⟨hk.1, by have := hk.2; have := c1.size; omega⟩), ⟨n0, hx, n2, n3, n4, n6⟩, h.dl, cur_chg h.cur c1 (fun k hk => by omega) (by omega), ?_, l1, l2, by have := c1.size; omega, l4, l5⟩
  exact ⟨c1.os.trans h.chg.os, c1.tape.trans h.chg.tape, c1.output.trans h.chg.output, Nat.le_trans h.chg.size c1.size, fun j hj hn => (c1.block j (by have := h.chg.size; omega) (by omega)).trans (h.chg.block j hj hn)⟩
theorem dm_set2 {B g rb mb : Nat} {w wr : World} {u : MsgD} {av : Option Addr} {cv : Nat} {x : Int} (h : DMsg B g w wr rb mb u av cv) (hx : In64 x) : DMsg B g w (wr.setCell ⟨mb, 2, none⟩ (.int .i64 x)) rb mb (u.1, u.2.1, x, u.2.2.2.1, u.2.2.2.2.1, u.2.2.2.2.2.1, u.2.2.2.2.2.2) av cv := by
  obtain ⟨l1, l2, l3, l4, l5⟩ := h.lt
  have c1 : Chg (fun b => b = mb) wr (wr.setCell ⟨mb, 2, none⟩ (.int .i64 x)) := ⟨rfl, rfl, rfl, by simp, fun j _ hj => heap_setCell_other wr ⟨mb, 2, none⟩ j _ hj⟩
  obtain ⟨n0, n1, n2, n3, n4, n6⟩ := h.in7
  refine ⟨heap_setCell_same wr mb 2 _ _ (.int .i64 x) h.box, (c1.block rb (by omega) (by omega)).trans h.res, intsR.own_mono (own_chg h.own c1 (fun j hj e => by have := hj.1; omega)) (fun k hk => ⟨hk.1, by have := hk.2; have := c1.size; omega⟩), ⟨n0, n1, hx, n3, n4, n6⟩, h.dl, cur_chg h.cur c1 (fun k hk => by omega) (by omega), ?_, l1, l2, by have := c1.size; omega, l4, l5⟩
  exact ⟨c1.os.trans h.chg.os, c1.tape.trans h.chg.tape, c1.output.trans h.chg.output, Nat.le_trans h.chg.size c1.size, fun j hj hn => (c1.block j (by have := h.chg.size; omega) (by omega)).trans (h.chg.block j hj hn)⟩
theorem dm_set3 {B g rb mb : Nat} {w wr : World} {u : MsgD} {av : Option Addr} {cv : Nat} {x : Int} (h : DMsg B g w wr rb mb u av cv) (hx : In64 x) : DMsg B g w (wr.setCell ⟨mb, 3, none⟩ (.int .i64 x)) rb mb (u.1, u.2.1, u.2.2.1, x, u.2.2.2.2.1, u.2.2.2.2.2.1, u.2.2.2.2.2.2) av cv := by
  obtain ⟨l1, l2, l3, l4, l5⟩ := h.lt
  have c1 : Chg (fun b => b = mb) wr (wr.setCell ⟨mb, 3, none⟩ (.int .i64 x)) := ⟨rfl, rfl, rfl, by simp, fun j _ hj => heap_setCell_other wr ⟨mb, 3, none⟩ j _ hj⟩
  obtain ⟨n0, n1, n2, n3, n4, n6⟩ := h.in7
  refine ⟨heap_setCell_same wr mb 3 _ _ (.int .i64 x) h.box, (c1.block rb (by omega) (by omega)).trans h.res, intsR.own_mono (own_chg h.own c1 (fun j hj e => by have := hj.1; omega)) (fun k hk => ⟨hk.1, by have := hk.2; have := c1.size; omega⟩), ⟨n0, n1, n2, hx, n4, n6⟩, h.dl, cur_chg h.cur c1 (fun k hk => by omega) (by omega), ?_, l1, l2, by have := c1.size; omega, l4, l5⟩
  exact ⟨c1.os.trans h.chg.os, c1.tape.trans h.chg.tape, c1.output.trans h.chg.output, Nat.le_trans h.chg.size c1.size, fun j hj hn => (c1.block j (by have := h.chg.size; omega) (by omega)).trans (h.chg.block j hj hn)⟩
theorem dm_set4 {B g rb mb : Nat} {w wr : World} {u : MsgD} {av : Option Addr} {cv : Nat} {x : Int} (h : DMsg B g w wr rb mb u av cv) (hx : In64 x) : DMsg B g w (wr.setCell ⟨mb, 4, none⟩ (.int .i64 x)) rb mb (u.1, u.2.1, u.2.2.1, u.2.2.2.1, x, u.2.2.2.2.2.1, u.2.2.2.2.2.2) av cv := by
  obtain ⟨l1, l2, l3, l4, l5⟩ := h.lt
  have c1 : Chg (fun b => b = mb) wr (wr.setCell ⟨mb, 4, none⟩ (.int .i64 x)) := ⟨rfl, rfl, rfl, by simp, fun j _ hj => heap_setCell_other wr ⟨mb, 4, none⟩ j _ hj⟩
  obtain ⟨n0, n1, n2, n3, n4, n6⟩ := h.in7
  refine ⟨heap_setCell_same wr mb 4 _ _ (.int .i64 x) h.box, (c1.block rb (by omega) (by omega)).trans h.res, intsR.own_mono (own_chg h.own c1 (fun j hj e => by have := hj.1; omega)) (fun k hk => ⟨hk.1, by have := hk.2; have := c1.size; omega⟩), ⟨n0, n1, n2, n3, hx, n6⟩, h.dl, cur_chg h.cur c1 (fun k hk => by omega) (by omega), ?_, l1, l2, by have := c1.size; omega, l4, l5⟩
  exact ⟨c1.os.trans h.chg.os, c1.tape.trans h.chg.tape, c1.output.trans h.chg.output, Nat.le_trans h.chg.size c1.size, fun j hj hn => (c1.block j (by have := h.chg.size; omega) (by omega)).trans (h.chg.block j hj hn)⟩
theorem dm_set6 {B g rb mb : Nat} {w wr : World} {u : MsgD} {av : Option Addr} {cv : Nat} {x : Int} (h : DMsg B g w wr rb mb u av cv) (hx : In64 x) : DMsg B g w (wr.setCell ⟨mb, 6, none⟩ (.int .i64 x)) rb mb (u.1, u.2.1, u.2.2.1, u.2.2.2.1, u.2.2.2.2.1, u.2.2.2.2.2.1, x) av cv := by
  obtain ⟨l1, l2, l3, l4, l5⟩ := h.lt
  have c1 : Chg (fun b => b = mb) wr (wr.setCell ⟨mb, 6, none⟩ (.int .i64 x)) := ⟨rfl, rfl, rfl, by simp, fun j _ hj => heap_setCell_other wr ⟨mb, 6, none⟩ j _ hj⟩
  obtain ⟨n0, n1, n2, n3, n4, n6⟩ := h.in7
  refine ⟨heap_setCell_same wr mb 6 _ _ (.int .i64 x) h.box, (c1.block rb (by omega) (by omega)).trans h.res, intsR.own_mono (own_chg h.own c1 (fun j hj e => by have := hj.1; omega)) (fun k hk => ⟨hk.1, by have := hk.2; have := c1.size; omega⟩), ⟨n0, n1, n2, n3, n4, hx⟩, h.dl, cur_chg h.cur c1 (fun k hk => by omega) (by omega), ?_, l1, l2, by have := c1.size; omega, l4, l5⟩
  exact ⟨c1.os.trans h.chg.os, c1.tape.trans h.chg.tape, c1.output.trans h.chg.output, Nat.le_trans h.chg.size c1.size, fun j hj hn => (c1.block j (by have := h.chg.size; omega) (by omega)).trans (h.chg.block j hj hn)⟩
theorem dm_data {B g rb mb : Nat} {w wr : World} {u : MsgD} {av a2 : Option Addr} {cv c2 : Nat} {d : List Int} (h : DMsg B g w wr rb mb u av cv) (ho : intsR.own wr (fun k => mb < k ∧ k < wr.heap.size) [.slice a2 d.length c2] d) (hd : d.length ≤ 3) : DMsg B g w (wr.setCell ⟨mb, 5, none⟩ (.slice a2 d.length c2)) rb mb (u.1, u.2.1, u.2.2.1, u.2.2.2.1, u.2.2.2.2.1, d, u.2.2.2.2.2.2) a2 c2 := by
  obtain ⟨l1, l2, l3, l4, l5⟩ := h.lt
  have c1 : Chg (fun b => b = mb) wr (wr.setCell ⟨mb, 5, none⟩ (.slice a2 d.length c2)) := ⟨rfl, rfl, rfl, by simp, fun j _ hj => heap_setCell_other wr ⟨mb, 5, none⟩ j _ hj⟩
  refine ⟨heap_setCell_same wr mb 5 _ _ (.slice a2 d.length c2) h.box, (c1.block rb (by omega) (by omega)).trans h.res, intsR.own_mono (own_chg ho c1 (fun j hj e => by have := hj.1; omega)) (fun k hk => ⟨hk.1, by have := hk.2; have := c1.size; omega⟩), h.in7, hd, cur_chg h.cur c1 (fun k hk => by omega) (by omega), ?_, l1, l2, by have := c1.size; omega, l4, l5⟩
  exact ⟨c1.os.trans h.chg.os, c1.tape.trans h.chg.tape, c1.output.trans h.chg.output, Nat.le_trans h.chg.size c1.size, fun j hj hn => (c1.block j (by have := h.chg.size; omega) (by omega)).trans (h.chg.block j hj hn)⟩
theorem nil_ints (w : World) (S : Foot) : intsR.own w S [.slice none ([] : List Int).length 0] [] := ⟨_, [], fun _ => False, rfl, World.ownsRow_nil _ _ _ _, fun g hg => by simp [Value.ownBlock] at hg, fun _ h => h.elim, rfl⟩

/-- What the draw of a letter leaves. -/
def DrawMP (B g : Nat) (w : World) (e : Ending) (w' : World) : Prop :=
  ∃ u av cv, e = .returned (.agg #[.int .i64 u.1, .int .i64 u.2.1, .int .i64 u.2.2.1, .int .i64 u.2.2.2.1, .int .i64 u.2.2.2.2.1, .slice av u.2.2.2.2.2.1.length cv, .int .i64 u.2.2.2.2.2.2]) ∧ u.2.2.2.2.2.1.length ≤ 3 ∧ DrewR msgR B g w w' [.int .i64 u.1, .int .i64 u.2.1, .int .i64 u.2.2.1, .int .i64 u.2.2.2.1, .int .i64 u.2.2.2.2.1, .slice av u.2.2.2.2.2.1.length cv, .int .i64 u.2.2.2.2.2.2] u
theorem dm_end {B g rb mb : Nat} {w wr : World} {u : MsgD} {av : Option Addr} {cv : Nat} {a : Act} (h : DMsg B g w wr rb mb u av cv) (ha : a.tmps[2]? = some (.pointer (some ⟨rb, 0, none⟩))) (hdf : a.defers = []) :
    bodyPost Try.prog Try.f37 (fun e w' => DrawMP B g w e w') Exit.ret a (((((((wr.setCell ⟨rb, 0, none⟩ (.int .i64 u.1)).setCell ⟨rb, 1, none⟩ (.int .i64 u.2.1)).setCell ⟨rb, 2, none⟩ (.int .i64 u.2.2.1)).setCell ⟨rb, 3, none⟩ (.int .i64 u.2.2.2.1)).setCell ⟨rb, 4, none⟩ (.int .i64 u.2.2.2.2.1)).setCell ⟨rb, 5, none⟩ (.slice av u.2.2.2.2.2.1.length cv)).setCell ⟨rb, 6, none⟩ (.int .i64 u.2.2.2.2.2.2)) := by
  obtain ⟨l1, l2, l3, l4, l5⟩ := h.lt
  obtain ⟨r0, r1, r2, r3, r4, r5, r6⟩ := cells_7 (put_7 (y0 := .int .i64 u.1) (y1 := .int .i64 u.2.1) (y2 := .int .i64 u.2.2.1) (y3 := .int .i64 u.2.2.2.1) (y4 := .int .i64 u.2.2.2.2.1) (y5 := .slice av u.2.2.2.2.2.1.length cv) (y6 := .int .i64 u.2.2.2.2.2.2) h.res)
  have c7 := put7_chg (w := wr) (g := rb) (v0 := .int .i64 u.1) (v1 := .int .i64 u.2.1) (v2 := .int .i64 u.2.2.1) (v3 := .int .i64 u.2.2.2.1) (v4 := .int .i64 u.2.2.2.2.1) (v5 := .slice av u.2.2.2.2.2.1.length cv) (v6 := .int .i64 u.2.2.2.2.2.2)
  generalize ((((((wr.setCell ⟨rb, 0, none⟩ (.int .i64 u.1)).setCell ⟨rb, 1, none⟩ (.int .i64 u.2.1)).setCell ⟨rb, 2, none⟩ (.int .i64 u.2.2.1)).setCell ⟨rb, 3, none⟩ (.int .i64 u.2.2.2.1)).setCell ⟨rb, 4, none⟩ (.int .i64 u.2.2.2.2.1)).setCell ⟨rb, 5, none⟩ (.slice av u.2.2.2.2.2.1.length cv)).setCell ⟨rb, 6, none⟩ (.int .i64 u.2.2.2.2.2.2) = W at r0 r1 r2 r3 r4 r5 r6 c7 ⊢
  have hs := c7.size
  obtain ⟨n0, n1, n2, n3, n4, n6⟩ := h.in7
  have k1 := own_chg h.own c7 (fun j hj e => by have := hj.1; omega)
  refine bodyPost_ret (v := .agg #[.int .i64 u.1, .int .i64 u.2.1, .int .i64 u.2.2.1, .int .i64 u.2.2.2.1, .int .i64 u.2.2.2.2.1, .slice av u.2.2.2.2.2.1.length cv, .int .i64 u.2.2.2.2.2.2]) (by simp [results, Try.results37, go_sem, ha, r0, r1, r2, r3, r4, r5, r6]) hdf ⟨u, av, cv, rfl, h.dl, own_msg n0 n1 n2 n3 n4 n6 (intsR.own_mono k1 (fun k hk => ⟨by have := hk.1; omega, by have := hk.2; omega⟩)), cur_chg h.cur c7 (fun k hk => by omega) (by omega), ?_⟩
  exact ⟨c7.os.trans h.chg.os, c7.tape.trans h.chg.tape, c7.output.trans h.chg.output, Nat.le_trans h.chg.size c7.size, fun j hj hn => (c7.block j (by have := h.chg.size; omega) (by omega)).trans (h.chg.block j hj hn)⟩

set_option maxRecDepth 20000 in
set_option maxHeartbeats 8000000 in
theorem l7DrawMsg_any (B g : Nat) (w : World) (hcur : Cur B w g) :
    Calls Try.prog 37 #[.pointer (some ⟨g, 0, none⟩)] w fun e w' => DrawMP B g w e w' := by
  have hgw := cur_lt hcur
  have hBg := hcur.1
  have C0 := cur_alloc hcur (.cells #[.int .i64 0, .int .i64 0, .int .i64 0, .int .i64 0, .int .i64 0, .slice none 0 0, .int .i64 0] 27)
  have X0 := heap_at w (.cells #[.int .i64 0, .int .i64 0, .int .i64 0, .int .i64 0, .int .i64 0, .slice none 0 0, .int .i64 0] 27)
  have G0 : Chg (fun b => b = g) w (w.alloc (.cells #[.int .i64 0, .int .i64 0, .int .i64 0, .int .i64 0, .int .i64 0, .slice none 0 0, .int .i64 0] 27)) := chg_below (box_below w _)
  have e0 : (w.alloc (.cells #[.int .i64 0, .int .i64 0, .int .i64 0, .int .i64 0, .int .i64 0, .slice none 0 0, .int .i64 0] 27)).heap.size = w.heap.size + 1 := by simp
  go_enter Try.func37, Try.ntmps37
  go_wp2_with fail
  generalize w.alloc (.cells #[.int .i64 0, .int .i64 0, .int .i64 0, .int .i64 0, .int .i64 0, .slice none 0 0, .int .i64 0] 27) = W0 at C0 X0 G0 e0 ⊢
  refine (l1Below_small B g 3 _ C0 (by omega) (by omega)).mono ?_
  rintro e w1 ⟨x0, rfl, a0, b0, C1, g1⟩
  have z1 := g1.size
  replace X0 := (g1.block w.heap.size (by omega) (by simp; omega)).trans X0
  replace G0 := G0.trans (chg_grown (S := fun b => b = g) g1 rfl)
  clear C0 g1
  have C0 := C1
  clear C1
  go_wp2_with fail
  refine (l1Below_small B g 6 _ C0 (by omega) (by omega)).mono ?_
  rintro e w2 ⟨x1, rfl, a1, b1, C1, g1⟩
  have z2 := g1.size
  replace X0 := (g1.block w.heap.size (by omega) (by simp; omega)).trans X0
  replace G0 := G0.trans (chg_grown (S := fun b => b = g) g1 rfl)
  clear C0 g1
  have C0 := C1
  clear C1
  go_wp2_with fail
  refine (l1Below_small B g 6 _ C0 (by omega) (by omega)).mono ?_
  rintro e w3 ⟨x2, rfl, a2, b2, C1, g1⟩
  have z3 := g1.size
  replace X0 := (g1.block w.heap.size (by omega) (by simp; omega)).trans X0
  replace G0 := G0.trans (chg_grown (S := fun b => b = g) g1 rfl)
  clear C0 g1
  have C0 := C1
  clear C1
  go_wp2_with fail
  refine (l1Below_small B g 13 _ C0 (by omega) (by omega)).mono ?_
  rintro e w4 ⟨x3, rfl, a3, b3, C1, g1⟩
  have z4 := g1.size
  replace X0 := (g1.block w.heap.size (by omega) (by simp; omega)).trans X0
  replace G0 := G0.trans (chg_grown (S := fun b => b = g) g1 rfl)
  clear C0 g1
  have C0 := C1
  clear C1
  go_wp2_with fail
  refine (l1Below_small B g 4 _ C0 (by omega) (by omega)).mono ?_
  rintro e w5 ⟨x4, rfl, a4, b4, C1, g1⟩
  have z5 := g1.size
  replace X0 := (g1.block w.heap.size (by omega) (by simp; omega)).trans X0
  replace G0 := G0.trans (chg_grown (S := fun b => b = g) g1 rfl)
  clear C0 g1
  have C0 := C1
  clear C1
  go_wp2_with fail
  refine (l1Below_small B g 4 _ C0 (by omega) (by omega)).mono ?_
  rintro e w6 ⟨x5, rfl, a5, b5, C1, g1⟩
  have z6 := g1.size
  replace X0 := (g1.block w.heap.size (by omega) (by simp; omega)).trans X0
  replace G0 := G0.trans (chg_grown (S := fun b => b = g) g1 rfl)
  clear C0 g1
  have C0 := C1
  clear C1
  go_wp2_with fail
  have D0 : DMsg B g w (w6.alloc (.cells #[.int .i64 x0, .int .i64 x1, .int .i64 x2, .int .i64 (1 + x3), .int .i64 x4, .slice none 0 0, .int .i64 x5] 27)) w.heap.size w6.heap.size (x0, x1, x2, 1 + x3, x4, [], x5) none 0 := by
    refine ⟨heap_at w6 _, heap_on _ X0, nil_ints _ _, ⟨small64 (x := x0) (by omega) (by omega), small64 (x := x1) (by omega) (by omega), small64 (x := x2) (by omega) (by omega), small64 (x := 1 + x3) (by omega) (by omega), small64 (x := x4) (by omega) (by omega), small64 (x := x5) (by omega) (by omega)⟩, by simp, cur_alloc C0 _, G0.trans (chg_below (box_below _ _)), Nat.le_refl _, by omega, by simp, hgw, hBg⟩
  clear X0 G0 C0
  generalize w6.alloc (.cells #[.int .i64 x0, .int .i64 x1, .int .i64 x2, .int .i64 (1 + x3), .int .i64 x4, .slice none 0 0, .int .i64 x5] 27) = W1 at D0 ⊢
  generalize w6.heap.size = mb at D0 ⊢
  have hmb := D0.lt
  have hu0 : ∃ u av cv, DMsg B g w W1 w.heap.size mb u av cv := ⟨_, _, _, D0⟩
  clear D0
  obtain ⟨u, av, cv, D0⟩ := hu0
  have C0 := D0.cur
  have HD0 : Hid _ := D0
  clear D0
  refine (l1Once_small B g 2 _ C0 (by omega) (by omega)).mono ?_
  rintro e v1 ⟨b, rfl, C1, g1⟩
  have HD1 : Hid _ := dm_grown HD0.out g1 C1
  clear C0 g1 HD0
  cases b
  · go_wp2_with fail
    refine (l1Once_small B g 14 _ C1 (by omega) (by omega)).mono ?_
    rintro e v2 ⟨b, rfl, C2, g2⟩
    have HD2 : Hid _ := dm_grown HD1.out g2 C2
    clear C1 g2 HD1
    cases b
    · have HD : Hid _ := HD2.out
      clear HD2 C2
      obtain ⟨m0, m1, m2, m3, m4, m5, m6⟩ := cells_7 HD.out.box
      obtain ⟨r0, r1, r2, r3, r4, r5, r6⟩ := cells_7 HD.out.res
      obtain ⟨q0, q1, q2, q3, q4, q5, q6⟩ := froz_7 HD.out.res
      have hlt := HD.out.lt
      go_wp2
      exact dm_end (u := u) HD.out rfl rfl
    · go_wp2_with fail
      refine (l1Below_small B g 5 _ C2 (by omega) (by omega)).mono ?_
      rintro e v3 ⟨k, rfl, k0, k1, C3, g3⟩
      have HD3 : Hid _ := dm_grown HD2.out g3 C3
      clear C2 g3 HD2
      obtain rfl | rfl | rfl | rfl | rfl : k = 0 ∨ k = 1 ∨ k = 2 ∨ k = 3 ∨ k = 4 := by omega
      · have hgs := cur_lt C3
        go_wp2_with fail
        refine (l1Below_small B g 2 _ (cur_alloc C3 _) (by omega) (by omega)).mono ?_
        rintro e v4 ⟨k, rfl, k0, k1, C4, g4⟩
        obtain ⟨y, hy, hy64⟩ := lit_cellP (n := 2) g4 hgs k k0 k1 (by
          intro j hj
          obtain rfl | rfl : j = 0 ∨ j = 1 := by omega
          all_goals exact ⟨_, rfl, by decide, by decide⟩)
        have D4 := dm_grown (dm_alloc HD3.out _) g4 C4
        have HD : Hid (DMsg B g w (v4.setCell ⟨mb, 0, none⟩ (.int .i64 y)) w.heap.size mb (y, u.2.1, u.2.2.1, u.2.2.2.1, u.2.2.2.2.1, u.2.2.2.2.2.1, u.2.2.2.2.2.2) av cv) := dm_set0 D4 hy64
        obtain ⟨m0, m1, m2, m3, m4, m5, m6⟩ := cells_7 D4.box
        obtain ⟨s0, s1, s2, s3, s4, s5, s6⟩ := froz_7 D4.box
        obtain ⟨r0, r1, r2, r3, r4, r5, r6⟩ := cells_7 D4.res
        obtain ⟨q0, q1, q2, q3, q4, q5, q6⟩ := froz_7 D4.res
        have hlt := D4.lt
        have hlt2 : ¬ w.heap.size = mb := by omega
        have hlt3 : ¬ mb = w.heap.size := by omega
        clear D4 C4 g4 C3 HD3 hy64
        go_wp2
        exact dm_end (u := (y, u.2.1, u.2.2.1, u.2.2.2.1, u.2.2.2.2.1, u.2.2.2.2.2.1, u.2.2.2.2.2.2)) HD.out rfl rfl
      · have hgs := cur_lt C3
        go_wp2_with fail
        refine (l1Below_small B g 2 _ (cur_alloc C3 _) (by omega) (by omega)).mono ?_
        rintro e v4 ⟨k, rfl, k0, k1, C4, g4⟩
        obtain ⟨y, hy, hy64⟩ := lit_cellP (n := 2) g4 hgs k k0 k1 (by
          intro j hj
          obtain rfl | rfl : j = 0 ∨ j = 1 := by omega
          all_goals exact ⟨_, rfl, by decide, by decide⟩)
        have D4 := dm_grown (dm_alloc HD3.out _) g4 C4
        have HD : Hid (DMsg B g w (v4.setCell ⟨mb, 1, none⟩ (.int .i64 y)) w.heap.size mb (u.1, y, u.2.2.1, u.2.2.2.1, u.2.2.2.2.1, u.2.2.2.2.2.1, u.2.2.2.2.2.2) av cv) := dm_set1 D4 hy64
        obtain ⟨m0, m1, m2, m3, m4, m5, m6⟩ := cells_7 D4.box
        obtain ⟨s0, s1, s2, s3, s4, s5, s6⟩ := froz_7 D4.box
        obtain ⟨r0, r1, r2, r3, r4, r5, r6⟩ := cells_7 D4.res
        obtain ⟨q0, q1, q2, q3, q4, q5, q6⟩ := froz_7 D4.res
        have hlt := D4.lt
        have hlt2 : ¬ w.heap.size = mb := by omega
        have hlt3 : ¬ mb = w.heap.size := by omega
        clear D4 C4 g4 C3 HD3 hy64
        go_wp2
        exact dm_end (u := (u.1, y, u.2.2.1, u.2.2.2.1, u.2.2.2.2.1, u.2.2.2.2.2.1, u.2.2.2.2.2.2)) HD.out rfl rfl
      · have hgs := cur_lt C3
        go_wp2_with fail
        refine (l1Below_small B g 3 _ (cur_alloc C3 _) (by omega) (by omega)).mono ?_
        rintro e v4 ⟨k, rfl, k0, k1, C4, g4⟩
        obtain ⟨y, hy, hy64⟩ := lit_cellP (n := 3) g4 hgs k k0 k1 (by
          intro j hj
          obtain rfl | rfl | rfl : j = 0 ∨ j = 1 ∨ j = 2 := by omega
          all_goals exact ⟨_, rfl, by decide, by decide⟩)
        have D4 := dm_grown (dm_alloc HD3.out _) g4 C4
        have HD : Hid (DMsg B g w (v4.setCell ⟨mb, 3, none⟩ (.int .i64 y)) w.heap.size mb (u.1, u.2.1, u.2.2.1, y, u.2.2.2.2.1, u.2.2.2.2.2.1, u.2.2.2.2.2.2) av cv) := dm_set3 D4 hy64
        obtain ⟨m0, m1, m2, m3, m4, m5, m6⟩ := cells_7 D4.box
        obtain ⟨s0, s1, s2, s3, s4, s5, s6⟩ := froz_7 D4.box
        obtain ⟨r0, r1, r2, r3, r4, r5, r6⟩ := cells_7 D4.res
        obtain ⟨q0, q1, q2, q3, q4, q5, q6⟩ := froz_7 D4.res
        have hlt := D4.lt
        have hlt2 : ¬ w.heap.size = mb := by omega
        have hlt3 : ¬ mb = w.heap.size := by omega
        clear D4 C4 g4 C3 HD3 hy64
        go_wp2
        exact dm_end (u := (u.1, u.2.1, u.2.2.1, y, u.2.2.2.2.1, u.2.2.2.2.2.1, u.2.2.2.2.2.2)) HD.out rfl rfl
      · have hgs := cur_lt C3
        go_wp2_with fail
        refine (l1Below_small B g 3 _ (cur_alloc C3 _) (by omega) (by omega)).mono ?_
        rintro e v4 ⟨k, rfl, k0, k1, C4, g4⟩
        obtain ⟨y, hy, hy64⟩ := lit_cellP (n := 3) g4 hgs k k0 k1 (by
          intro j hj
          obtain rfl | rfl | rfl : j = 0 ∨ j = 1 ∨ j = 2 := by omega
          all_goals exact ⟨_, rfl, by decide, by decide⟩)
        have D4 := dm_grown (dm_alloc HD3.out _) g4 C4
        have HD : Hid (DMsg B g w (v4.setCell ⟨mb, 4, none⟩ (.int .i64 y)) w.heap.size mb (u.1, u.2.1, u.2.2.1, u.2.2.2.1, y, u.2.2.2.2.2.1, u.2.2.2.2.2.2) av cv) := dm_set4 D4 hy64
        obtain ⟨m0, m1, m2, m3, m4, m5, m6⟩ := cells_7 D4.box
        obtain ⟨s0, s1, s2, s3, s4, s5, s6⟩ := froz_7 D4.box
        obtain ⟨r0, r1, r2, r3, r4, r5, r6⟩ := cells_7 D4.res
        obtain ⟨q0, q1, q2, q3, q4, q5, q6⟩ := froz_7 D4.res
        have hlt := D4.lt
        have hlt2 : ¬ w.heap.size = mb := by omega
        have hlt3 : ¬ mb = w.heap.size := by omega
        clear D4 C4 g4 C3 HD3 hy64
        go_wp2
        exact dm_end (u := (u.1, u.2.1, u.2.2.1, u.2.2.2.1, y, u.2.2.2.2.2.1, u.2.2.2.2.2.2)) HD.out rfl rfl
      · go_wp2_with fail
        refine (l3DrawAny_rep B g _ C3).mono ?_
        rintro e v4 ⟨vv, xs, rfl, hx3, h64, gl, cl, rfl, j1, j2, j3, j4⟩
        have DR := drew_ints h64 j1 j2 j3 j4
        have D4 := dm_grown HD3.out j4 j3
        have HD : Hid (DMsg B g w (v4.setCell ⟨mb, 5, none⟩ (.slice (some ⟨gl, 0, none⟩) xs.length cl)) w.heap.size mb (u.1, u.2.1, u.2.2.1, u.2.2.2.1, u.2.2.2.2.1, xs, u.2.2.2.2.2.2) (some ⟨gl, 0, none⟩) cl) := dm_data D4 (intsR.own_mono DR.own (fun k hk => ⟨by have := hk.1; have := HD3.out.lt; omega, hk.2⟩)) hx3
        obtain ⟨m0, m1, m2, m3, m4, m5, m6⟩ := cells_7 D4.box
        obtain ⟨s0, s1, s2, s3, s4, s5, s6⟩ := froz_7 D4.box
        obtain ⟨r0, r1, r2, r3, r4, r5, r6⟩ := cells_7 D4.res
        obtain ⟨q0, q1, q2, q3, q4, q5, q6⟩ := froz_7 D4.res
        have hlt := D4.lt
        have hlt2 : ¬ w.heap.size = mb := by omega
        have hlt3 : ¬ mb = w.heap.size := by omega
        clear D4 DR j1 j2 j3 j4 C3 HD3 h64
        go_wp2
        exact dm_end (u := (u.1, u.2.1, u.2.2.1, u.2.2.2.1, u.2.2.2.2.1, xs, u.2.2.2.2.2.2)) HD.out rfl rfl
  · go_wp2_with fail
    refine (l3DrawLine_rep B g _ C1).mono ?_
    rintro e v5 ⟨gl, p, q, rfl, j1, h64, j2, j3, j4⟩
    have DR := drew_ints h64 j1 j2 j3 j4
    have D4 := dm_grown HD1.out j4 j3
    have D5 := dm_data (a2 := some ⟨gl, 0, none⟩) (c2 := 2) (d := [p, q]) D4 (intsR.own_mono DR.own (fun k hk => ⟨by have := hk.1; have := HD1.out.lt; omega, hk.2⟩)) (by simp)
    obtain ⟨m0, m1, m2, m3, m4, m5, m6⟩ := cells_7 D4.box
    obtain ⟨s0, s1, s2, s3, s4, s5, s6⟩ := froz_7 D4.box
    have hu5 : ∃ u av cv, DMsg B g w (v5.setCell ⟨mb, 5, none⟩ (.slice (some ⟨gl, 0, none⟩) 2 2)) w.heap.size mb u av cv := ⟨_, _, _, D5⟩
    have HU5 : Hid _ := hu5
    clear D4 DR j1 j2 j3 j4 C1 HD1 h64 D5 hu5
    go_wp2_with fail
    clear m0 m1 m2 m3 m4 m5 m6 s0 s1 s2 s3 s4 s5 s6
    generalize v5.setCell ⟨mb, 5, none⟩ (.slice (some ⟨gl, 0, none⟩) 2 2) = W5 at HU5 ⊢
    obtain ⟨u, av, cv, D5⟩ := HU5.out
    have C1 := D5.cur
    have HD1 : Hid _ := D5
    clear HU5 D5
    refine (l1Once_small B g 14 _ C1 (by omega) (by omega)).mono ?_
    rintro e v2 ⟨b, rfl, C2, g2⟩
    have HD2 : Hid _ := dm_grown HD1.out g2 C2
    clear C1 g2 HD1
    cases b
    · have HD : Hid _ := HD2.out
      clear HD2 C2
      obtain ⟨m0, m1, m2, m3, m4, m5, m6⟩ := cells_7 HD.out.box
      obtain ⟨r0, r1, r2, r3, r4, r5, r6⟩ := cells_7 HD.out.res
      obtain ⟨q0, q1, q2, q3, q4, q5, q6⟩ := froz_7 HD.out.res
      have hlt := HD.out.lt
      go_wp2
      exact dm_end (u := u) HD.out rfl rfl
    · go_wp2_with fail
      refine (l1Below_small B g 5 _ C2 (by omega) (by omega)).mono ?_
      rintro e v3 ⟨k, rfl, k0, k1, C3, g3⟩
      have HD3 : Hid _ := dm_grown HD2.out g3 C3
      clear C2 g3 HD2
      obtain rfl | rfl | rfl | rfl | rfl : k = 0 ∨ k = 1 ∨ k = 2 ∨ k = 3 ∨ k = 4 := by omega
      · have hgs := cur_lt C3
        go_wp2_with fail
        refine (l1Below_small B g 2 _ (cur_alloc C3 _) (by omega) (by omega)).mono ?_
        rintro e v4 ⟨k, rfl, k0, k1, C4, g4⟩
        obtain ⟨y, hy, hy64⟩ := lit_cellP (n := 2) g4 hgs k k0 k1 (by
          intro j hj
          obtain rfl | rfl : j = 0 ∨ j = 1 := by omega
          all_goals exact ⟨_, rfl, by decide, by decide⟩)
        have D4 := dm_grown (dm_alloc HD3.out _) g4 C4
        have HD : Hid (DMsg B g w (v4.setCell ⟨mb, 0, none⟩ (.int .i64 y)) w.heap.size mb (y, u.2.1, u.2.2.1, u.2.2.2.1, u.2.2.2.2.1, u.2.2.2.2.2.1, u.2.2.2.2.2.2) av cv) := dm_set0 D4 hy64
        obtain ⟨m0, m1, m2, m3, m4, m5, m6⟩ := cells_7 D4.box
        obtain ⟨s0, s1, s2, s3, s4, s5, s6⟩ := froz_7 D4.box
        obtain ⟨r0, r1, r2, r3, r4, r5, r6⟩ := cells_7 D4.res
        obtain ⟨q0, q1, q2, q3, q4, q5, q6⟩ := froz_7 D4.res
        have hlt := D4.lt
        have hlt2 : ¬ w.heap.size = mb := by omega
        have hlt3 : ¬ mb = w.heap.size := by omega
        clear D4 C4 g4 C3 HD3 hy64
        go_wp2
        exact dm_end (u := (y, u.2.1, u.2.2.1, u.2.2.2.1, u.2.2.2.2.1, u.2.2.2.2.2.1, u.2.2.2.2.2.2)) HD.out rfl rfl
      · have hgs := cur_lt C3
        go_wp2_with fail
        refine (l1Below_small B g 2 _ (cur_alloc C3 _) (by omega) (by omega)).mono ?_
        rintro e v4 ⟨k, rfl, k0, k1, C4, g4⟩
        obtain ⟨y, hy, hy64⟩ := lit_cellP (n := 2) g4 hgs k k0 k1 (by
          intro j hj
          obtain rfl | rfl : j = 0 ∨ j = 1 := by omega
          all_goals exact ⟨_, rfl, by decide, by decide⟩)
        have D4 := dm_grown (dm_alloc HD3.out _) g4 C4
        have HD : Hid (DMsg B g w (v4.setCell ⟨mb, 1, none⟩ (.int .i64 y)) w.heap.size mb (u.1, y, u.2.2.1, u.2.2.2.1, u.2.2.2.2.1, u.2.2.2.2.2.1, u.2.2.2.2.2.2) av cv) := dm_set1 D4 hy64
        obtain ⟨m0, m1, m2, m3, m4, m5, m6⟩ := cells_7 D4.box
        obtain ⟨s0, s1, s2, s3, s4, s5, s6⟩ := froz_7 D4.box
        obtain ⟨r0, r1, r2, r3, r4, r5, r6⟩ := cells_7 D4.res
        obtain ⟨q0, q1, q2, q3, q4, q5, q6⟩ := froz_7 D4.res
        have hlt := D4.lt
        have hlt2 : ¬ w.heap.size = mb := by omega
        have hlt3 : ¬ mb = w.heap.size := by omega
        clear D4 C4 g4 C3 HD3 hy64
        go_wp2
        exact dm_end (u := (u.1, y, u.2.2.1, u.2.2.2.1, u.2.2.2.2.1, u.2.2.2.2.2.1, u.2.2.2.2.2.2)) HD.out rfl rfl
      · have hgs := cur_lt C3
        go_wp2_with fail
        refine (l1Below_small B g 3 _ (cur_alloc C3 _) (by omega) (by omega)).mono ?_
        rintro e v4 ⟨k, rfl, k0, k1, C4, g4⟩
        obtain ⟨y, hy, hy64⟩ := lit_cellP (n := 3) g4 hgs k k0 k1 (by
          intro j hj
          obtain rfl | rfl | rfl : j = 0 ∨ j = 1 ∨ j = 2 := by omega
          all_goals exact ⟨_, rfl, by decide, by decide⟩)
        have D4 := dm_grown (dm_alloc HD3.out _) g4 C4
        have HD : Hid (DMsg B g w (v4.setCell ⟨mb, 3, none⟩ (.int .i64 y)) w.heap.size mb (u.1, u.2.1, u.2.2.1, y, u.2.2.2.2.1, u.2.2.2.2.2.1, u.2.2.2.2.2.2) av cv) := dm_set3 D4 hy64
        obtain ⟨m0, m1, m2, m3, m4, m5, m6⟩ := cells_7 D4.box
        obtain ⟨s0, s1, s2, s3, s4, s5, s6⟩ := froz_7 D4.box
        obtain ⟨r0, r1, r2, r3, r4, r5, r6⟩ := cells_7 D4.res
        obtain ⟨q0, q1, q2, q3, q4, q5, q6⟩ := froz_7 D4.res
        have hlt := D4.lt
        have hlt2 : ¬ w.heap.size = mb := by omega
        have hlt3 : ¬ mb = w.heap.size := by omega
        clear D4 C4 g4 C3 HD3 hy64
        go_wp2
        exact dm_end (u := (u.1, u.2.1, u.2.2.1, y, u.2.2.2.2.1, u.2.2.2.2.2.1, u.2.2.2.2.2.2)) HD.out rfl rfl
      · have hgs := cur_lt C3
        go_wp2_with fail
        refine (l1Below_small B g 3 _ (cur_alloc C3 _) (by omega) (by omega)).mono ?_
        rintro e v4 ⟨k, rfl, k0, k1, C4, g4⟩
        obtain ⟨y, hy, hy64⟩ := lit_cellP (n := 3) g4 hgs k k0 k1 (by
          intro j hj
          obtain rfl | rfl | rfl : j = 0 ∨ j = 1 ∨ j = 2 := by omega
          all_goals exact ⟨_, rfl, by decide, by decide⟩)
        have D4 := dm_grown (dm_alloc HD3.out _) g4 C4
        have HD : Hid (DMsg B g w (v4.setCell ⟨mb, 4, none⟩ (.int .i64 y)) w.heap.size mb (u.1, u.2.1, u.2.2.1, u.2.2.2.1, y, u.2.2.2.2.2.1, u.2.2.2.2.2.2) av cv) := dm_set4 D4 hy64
        obtain ⟨m0, m1, m2, m3, m4, m5, m6⟩ := cells_7 D4.box
        obtain ⟨s0, s1, s2, s3, s4, s5, s6⟩ := froz_7 D4.box
        obtain ⟨r0, r1, r2, r3, r4, r5, r6⟩ := cells_7 D4.res
        obtain ⟨q0, q1, q2, q3, q4, q5, q6⟩ := froz_7 D4.res
        have hlt := D4.lt
        have hlt2 : ¬ w.heap.size = mb := by omega
        have hlt3 : ¬ mb = w.heap.size := by omega
        clear D4 C4 g4 C3 HD3 hy64
        go_wp2
        exact dm_end (u := (u.1, u.2.1, u.2.2.1, u.2.2.2.1, y, u.2.2.2.2.2.1, u.2.2.2.2.2.2)) HD.out rfl rfl
      · go_wp2_with fail
        refine (l3DrawAny_rep B g _ C3).mono ?_
        rintro e v4 ⟨vv, xs, rfl, hx3, h64, gl, cl, rfl, j1, j2, j3, j4⟩
        have DR := drew_ints h64 j1 j2 j3 j4
        have D4 := dm_grown HD3.out j4 j3
        have HD : Hid (DMsg B g w (v4.setCell ⟨mb, 5, none⟩ (.slice (some ⟨gl, 0, none⟩) xs.length cl)) w.heap.size mb (u.1, u.2.1, u.2.2.1, u.2.2.2.1, u.2.2.2.2.1, xs, u.2.2.2.2.2.2) (some ⟨gl, 0, none⟩) cl) := dm_data D4 (intsR.own_mono DR.own (fun k hk => ⟨by have := hk.1; have := HD3.out.lt; omega, hk.2⟩)) hx3
        obtain ⟨m0, m1, m2, m3, m4, m5, m6⟩ := cells_7 D4.box
        obtain ⟨s0, s1, s2, s3, s4, s5, s6⟩ := froz_7 D4.box
        obtain ⟨r0, r1, r2, r3, r4, r5, r6⟩ := cells_7 D4.res
        obtain ⟨q0, q1, q2, q3, q4, q5, q6⟩ := froz_7 D4.res
        have hlt := D4.lt
        have hlt2 : ¬ w.heap.size = mb := by omega
        have hlt3 : ¬ mb = w.heap.size := by omega
        clear D4 DR j1 j2 j3 j4 C3 HD3 h64
        go_wp2
        exact dm_end (u := (u.1, u.2.1, u.2.2.1, u.2.2.2.1, u.2.2.2.2.1, xs, u.2.2.2.2.2.2)) HD.out rfl rfl
end Go.Proofs.Ytfflmbpjolgghaa
