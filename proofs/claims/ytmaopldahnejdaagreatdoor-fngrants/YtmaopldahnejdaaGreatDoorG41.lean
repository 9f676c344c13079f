import Derived.Test.YtmaopldahnejdaaGreatDoorG00Box
import Derived.Test.YtmaopldahnejdaaGreatDoorG40
namespace Go.Proofs.YtmaopldahnejdaaGreatDoor
open Go.ChangeShapes Go.WideShapes Go.ChangeAt Go.RowKit
set_option linter.unusedVariables false
def In7 (u : zAS) : Prop := zA4 u.1 ∧ zA4 u.2.1 ∧ zA4 u.2.2.1 ∧ zA4 u.2.2.2.1 ∧ zA4 u.2.2.2.2.1 ∧ zA4 u.2.2.2.2.2.2
structure DMsg (B g : Nat) (w wr : World) (rb mb : Nat) (u : zAS) (av : Option Addr) (cv : Nat) : Prop where
 box : wr.heap[mb]? = some (.cells #[.int .i64 u.1, .int .i64 u.2.1, .int .i64 u.2.2.1, .int .i64 u.2.2.2.1, .int .i64 u.2.2.2.2.1, .slice av u.2.2.2.2.2.1.length cv, .int .i64 u.2.2.2.2.2.2] 30 (0, 0))
 res : wr.heap[rb]? = some (.cells #[.int .i64 0, .int .i64 0, .int .i64 0, .int .i64 0, .int .i64 0, .slice none 0 0, .int .i64 0] 30 (0, 0))
 own : zAm.own wr (fun k => mb < k ∧ k < wr.heap.size) [.slice av u.2.2.2.2.2.1.length cv] u.2.2.2.2.2.1
 in7 : In7 u
 dl : u.2.2.2.2.2.1.length ≤ 3
 cur : Cur B wr g
 chg : Chg (fun b => b = g) w wr
 lt : w.heap.size ≤ rb ∧ rb < mb ∧ mb < wr.heap.size ∧ g < w.heap.size ∧ B ≤ g
theorem zLZ {B g rb mb : Nat} {w wr w' : World} {u : zAS} {av : Option Addr} {cv : Nat} (h : DMsg B g w wr rb mb u av cv) (hc : Chg (fun b => b = g) wr w') (hcur : Cur B w' g) : DMsg B g w w' rb mb u av cv := by
 obtain ⟨c, f, l3, a, d⟩ := h.lt;have hs := hc.size;refine ⟨(hc.block mb (by omega) (by omega)).trans h.box, (hc.block rb (by omega) (by omega)).trans h.res, zAm.own_mono (zBk h.own hc (fun j hj e => by have := hj.1; omega)) (fun k hk => ⟨hk.1, by have := hk.2; omega⟩), h.in7, h.dl, hcur, h.chg.trans hc, c, f, by omega, a, d⟩
theorem zBG {B g rb mb : Nat} {w wr w' : World} {u : zAS} {av : Option Addr} {cv : Nat} (h : DMsg B g w wr rb mb u av cv) (hg : wr.grownBy w' (some g)) (hcur : Cur B w' g) : DMsg B g w w' rb mb u av cv := zLZ h (zB2 hg rfl) hcur
theorem zD5 {B g rb mb : Nat} {w wr : World} {u : zAS} {av : Option Addr} {cv : Nat} (h : DMsg B g w wr rb mb u av cv) (o : Obj) : DMsg B g w (wr.alloc o) rb mb u av cv := zLZ h (zBp (zAg wr o)) (zAQ h.cur o)
theorem zMc {B g rb mb : Nat} {w wr : World} {u : zAS} {av : Option Addr} {cv : Nat} {x : Int} (h : DMsg B g w wr rb mb u av cv) (hx : zA4 x) : DMsg B g w (wr.setCell ⟨mb, 0, none⟩ (nI x)) rb mb (x, u.2.1, u.2.2.1, u.2.2.2.1, u.2.2.2.2.1, u.2.2.2.2.2.1, u.2.2.2.2.2.2) av cv := by
 obtain ⟨l, p, l3, i, o⟩ := h.lt;have a : Chg (fun b => b = mb) wr (wr.setCell ⟨mb, 0, none⟩ (nI x)) := ⟨rfl, rfl, rfl, by simp, fun j _ hj => heap_setCell_other wr ⟨mb, 0, none⟩ j _ hj⟩;obtain ⟨n0, m, n, c, d, f⟩ := h.in7;refine ⟨heap_setCell_same wr mb 0 _ _ (nI x) h.box, (a.block rb (by omega) (by omega)).trans h.res, zAm.own_mono (zBk h.own a (fun j hj e => by have := hj.1; omega)) (fun k hk => ⟨hk.1, by have := hk.2; have := a.size; omega⟩), ⟨hx, m, n, c, d, f⟩, h.dl, zB5 h.cur a (fun k hk => by omega) (by omega), ?_, l, p, by have := a.size; omega, i, o⟩;exact ⟨a.os.trans h.chg.os, a.tape.trans h.chg.tape, a.output.trans h.chg.output, Nat.le_trans h.chg.size a.size, fun j hj hn => (a.block j (by have := h.chg.size; omega) (by omega)).trans (h.chg.block j hj hn)⟩
theorem zMd {B g rb mb : Nat} {w wr : World} {u : zAS} {av : Option Addr} {cv : Nat} {x : Int} (h : DMsg B g w wr rb mb u av cv) (hx : zA4 x) : DMsg B g w (wr.setCell ⟨mb, 1, none⟩ (nI x)) rb mb (u.1, x, u.2.2.1, u.2.2.2.1, u.2.2.2.2.1, u.2.2.2.2.2.1, u.2.2.2.2.2.2) av cv := by
 obtain ⟨m, p, l3, l, o⟩ := h.lt;have a : Chg (fun b => b = mb) wr (wr.setCell ⟨mb, 1, none⟩ (nI x)) := ⟨rfl, rfl, rfl, by simp, fun j _ hj => heap_setCell_other wr ⟨mb, 1, none⟩ j _ hj⟩;obtain ⟨c, n1, n, d, f, i⟩ := h.in7;refine ⟨heap_setCell_same wr mb 1 _ _ (nI x) h.box, (a.block rb (by omega) (by omega)).trans h.res, zAm.own_mono (zBk h.own a (fun j hj e => by have := hj.1; omega)) (fun k hk => ⟨hk.1, by have := hk.2; have := a.size; omega⟩), ⟨c, hx, n, d, f, i⟩, h.dl, zB5 h.cur a (fun k hk => by omega) (by omega), ?_, m, p, by have := a.size; omega, l, o⟩;exact ⟨a.os.trans h.chg.os, a.tape.trans h.chg.tape, a.output.trans h.chg.output, Nat.le_trans h.chg.size a.size, fun j hj hn => (a.block j (by have := h.chg.size; omega) (by omega)).trans (h.chg.block j hj hn)⟩
theorem zMe {B g rb mb : Nat} {w wr : World} {u : zAS} {av : Option Addr} {cv : Nat} {x : Int} (h : DMsg B g w wr rb mb u av cv) (hx : zA4 x) : DMsg B g w (wr.setCell ⟨mb, 3, none⟩ (nI x)) rb mb (u.1, u.2.1, u.2.2.1, x, u.2.2.2.2.1, u.2.2.2.2.2.1, u.2.2.2.2.2.2) av cv := by
 obtain ⟨l, p, l3, i, o⟩ := h.lt;have a : Chg (fun b => b = mb) wr (wr.setCell ⟨mb, 3, none⟩ (nI x)) := ⟨rfl, rfl, rfl, by simp, fun j _ hj => heap_setCell_other wr ⟨mb, 3, none⟩ j _ hj⟩;obtain ⟨c, m, n, n3, d, f⟩ := h.in7;refine ⟨heap_setCell_same wr mb 3 _ _ (nI x) h.box, (a.block rb (by omega) (by omega)).trans h.res, zAm.own_mono (zBk h.own a (fun j hj e => by have := hj.1; omega)) (fun k hk => ⟨hk.1, by have := hk.2; have := a.size; omega⟩), ⟨c, m, n, hx, d, f⟩, h.dl, zB5 h.cur a (fun k hk => by omega) (by omega), ?_, l, p, by have := a.size; omega, i, o⟩;exact ⟨a.os.trans h.chg.os, a.tape.trans h.chg.tape, a.output.trans h.chg.output, Nat.le_trans h.chg.size a.size, fun j hj hn => (a.block j (by have := h.chg.size; omega) (by omega)).trans (h.chg.block j hj hn)⟩
theorem zMf {B g rb mb : Nat} {w wr : World} {u : zAS} {av : Option Addr} {cv : Nat} {x : Int} (h : DMsg B g w wr rb mb u av cv) (hx : zA4 x) : DMsg B g w (wr.setCell ⟨mb, 4, none⟩ (nI x)) rb mb (u.1, u.2.1, u.2.2.1, u.2.2.2.1, x, u.2.2.2.2.2.1, u.2.2.2.2.2.2) av cv := by
 obtain ⟨l, p, l3, i, o⟩ := h.lt;have a : Chg (fun b => b = mb) wr (wr.setCell ⟨mb, 4, none⟩ (nI x)) := ⟨rfl, rfl, rfl, by simp, fun j _ hj => heap_setCell_other wr ⟨mb, 4, none⟩ j _ hj⟩;obtain ⟨c, m, n, d, n4, f⟩ := h.in7;refine ⟨heap_setCell_same wr mb 4 _ _ (nI x) h.box, (a.block rb (by omega) (by omega)).trans h.res, zAm.own_mono (zBk h.own a (fun j hj e => by have := hj.1; omega)) (fun k hk => ⟨hk.1, by have := hk.2; have := a.size; omega⟩), ⟨c, m, n, d, hx, f⟩, h.dl, zB5 h.cur a (fun k hk => by omega) (by omega), ?_, l, p, by have := a.size; omega, i, o⟩;exact ⟨a.os.trans h.chg.os, a.tape.trans h.chg.tape, a.output.trans h.chg.output, Nat.le_trans h.chg.size a.size, fun j hj hn => (a.block j (by have := h.chg.size; omega) (by omega)).trans (h.chg.block j hj hn)⟩
theorem zJp {B g rb mb : Nat} {w wr : World} {u : zAS} {av a2 : Option Addr} {cv c2 : Nat} {d : List Int} (h : DMsg B g w wr rb mb u av cv) (ho : zAm.own wr (fun k => mb < k ∧ k < wr.heap.size) [sL a2 d.length c2] d) (hd : d.length ≤ 3) : DMsg B g w (wr.setCell ⟨mb, 5, none⟩ (sL a2 d.length c2)) rb mb (u.1, u.2.1, u.2.2.1, u.2.2.2.1, u.2.2.2.2.1, d, u.2.2.2.2.2.2) a2 c2 := by
 obtain ⟨f, l, l3, c, i⟩ := h.lt;have a : Chg (fun b => b = mb) wr (wr.setCell ⟨mb, 5, none⟩ (sL a2 d.length c2)) := ⟨rfl, rfl, rfl, by simp, fun j _ hj => heap_setCell_other wr ⟨mb, 5, none⟩ j _ hj⟩;refine ⟨heap_setCell_same wr mb 5 _ _ (sL a2 d.length c2) h.box, (a.block rb (by omega) (by omega)).trans h.res, zAm.own_mono (zBk ho a (fun j hj e => by have := hj.1; omega)) (fun k hk => ⟨hk.1, by have := hk.2; have := a.size; omega⟩), h.in7, hd, zB5 h.cur a (fun k hk => by omega) (by omega), ?_, f, l, by have := a.size; omega, c, i⟩;exact ⟨a.os.trans h.chg.os, a.tape.trans h.chg.tape, a.output.trans h.chg.output, Nat.le_trans h.chg.size a.size, fun j hj hn => (a.block j (by have := h.chg.size; omega) (by omega)).trans (h.chg.block j hj hn)⟩
theorem nil_ints (w : World) (S : zAN) : zAm.own w S [sL none ([] : List Int).length 0] [] := ⟨_, [], fun _ => False, rfl, World.ownsRow_nil _ _ _ _, fun g hg => by simp [Value.ownBlock] at hg, fun _ h => h.elim, rfl⟩
def DrawMP (B g : Nat) (w : World) (e : Ending) (w' : World) : Prop :=
 ∃ u av cv, e = .returned (.agg #[.int .i64 u.1, .int .i64 u.2.1, .int .i64 u.2.2.1, .int .i64 u.2.2.2.1, .int .i64 u.2.2.2.2.1, .slice av u.2.2.2.2.2.1.length cv, .int .i64 u.2.2.2.2.2.2]) ∧ u.2.2.2.2.2.1.length ≤ 3 ∧ DrewR zDk B g w w' [.int .i64 u.1, .int .i64 u.2.1, .int .i64 u.2.2.1, .int .i64 u.2.2.2.1, .int .i64 u.2.2.2.2.1, .slice av u.2.2.2.2.2.1.length cv, .int .i64 u.2.2.2.2.2.2] u
theorem zDW {B g rb mb : Nat} {w wr : World} {u : zAS} {av : Option Addr} {cv : Nat} {a : Act} (h : DMsg B g w wr rb mb u av cv) (ha : a.tmps[2]? = some (.pointer (some ⟨rb, 0, none⟩))) (hdf : a.defers = []) :
    bodyPost Tryz.prog Tryz.f38 (fun e w' => DrawMP B g w e w') Exit.ret a (((((((wr.setCell ⟨rb, 0, none⟩ (nI u.1)).setCell ⟨rb, 1, none⟩ (nI u.2.1)).setCell ⟨rb, 2, none⟩ (nI u.2.2.1)).setCell ⟨rb, 3, none⟩ (nI u.2.2.2.1)).setCell ⟨rb, 4, none⟩ (nI u.2.2.2.2.1)).setCell ⟨rb, 5, none⟩ (sL av u.2.2.2.2.2.1.length cv)).setCell ⟨rb, 6, none⟩ (nI u.2.2.2.2.2.2)) := by
 obtain ⟨l1, l2, l3, l4, l5⟩ := h.lt;obtain ⟨l, c, m, n, f, i, d⟩ := zAe (put_7 (y0 := nI u.1) (y1 := nI u.2.1) (y2 := nI u.2.2.1) (y3 := nI u.2.2.2.1) (y4 := nI u.2.2.2.2.1) (y5 := sL av u.2.2.2.2.2.1.length cv) (y6 := nI u.2.2.2.2.2.2) h.res);have b := zJR (w := wr) (g := rb) (v0 := nI u.1) (v1 := nI u.2.1) (v2 := nI u.2.2.1) (v3 := nI u.2.2.2.1) (v4 := nI u.2.2.2.2.1) (v5 := sL av u.2.2.2.2.2.1.length cv) (v6 := nI u.2.2.2.2.2.2);generalize ((((((wr.setCell ⟨rb, 0, none⟩ (nI u.1)).setCell ⟨rb, 1, none⟩ (nI u.2.1)).setCell ⟨rb, 2, none⟩ (nI u.2.2.1)).setCell ⟨rb, 3, none⟩ (nI u.2.2.2.1)).setCell ⟨rb, 4, none⟩ (nI u.2.2.2.2.1)).setCell ⟨rb, 5, none⟩ (sL av u.2.2.2.2.2.1.length cv)).setCell ⟨rb, 6, none⟩ (nI u.2.2.2.2.2.2) = W at l c m n f i d b ⊢;have hs := b.size;obtain ⟨o, y, r, z, p, q⟩ := h.in7;have s := zBk h.own b (fun j hj e => by have := hj.1; omega);refine bodyPost_ret (v := .agg #[nI u.1, nI u.2.1, nI u.2.2.1, nI u.2.2.2.1, nI u.2.2.2.2.1, sL av u.2.2.2.2.2.1.length cv, nI u.2.2.2.2.2.2]) (by simp [results, Tryz.results38, go_sem, ha, l, c, m, n, f, i, d]) hdf ⟨u, av, cv, rfl, h.dl, zBC o y r z p q (zAm.own_mono s (fun k hk => ⟨by have := hk.1; omega, by have := hk.2; omega⟩)), zB5 h.cur b (fun k hk => by omega) (by omega), ?_⟩;exact ⟨b.os.trans h.chg.os, b.tape.trans h.chg.tape, b.output.trans h.chg.output, Nat.le_trans h.chg.size b.size, fun j hj hn => (b.block j (by have := h.chg.size; omega) (by omega)).trans (h.chg.block j hj hn)⟩
set_option maxRecDepth 20000 in
set_option maxHeartbeats 8000000 in
theorem zHN (B g : Nat) (w : World) (hcur : Cur B w g) :
    Calls Tryz.prog 38 #[.pointer (some ⟨g, 0, none⟩)] w fun e w' => DrawMP B g w e w' := by
 have dB := zBX hcur;have cB := hcur.1;have A := zAQ hcur (.cells #[nI 0, nI 0, nI 0, nI 0, nI 0, sL none 0 0, nI 0] 30);have K := zAw w (.cells #[nI 0, nI 0, nI 0, nI 0, nI 0, sL none 0 0, nI 0] 30);have L : Chg (fun b => b = g) w (w.alloc (.cells #[nI 0, nI 0, nI 0, nI 0, nI 0, sL none 0 0, nI 0] 30)) := zBp (zAg w _);have e0 : (w.alloc (.cells #[nI 0, nI 0, nI 0, nI 0, nI 0, sL none 0 0, nI 0] 30)).heap.size = w.heap.size + 1 := by simp
 go_enter Tryz.func38, Tryz.ntmps38;go_wp2_with fail
 generalize w.alloc (.cells #[nI 0, nI 0, nI 0, nI 0, nI 0, sL none 0 0, nI 0] 30) = W0 at A K L e0 ⊢;refine (zAp B g 3 _ A (by omega) (by omega)).mono ?_;rintro e w1 ⟨x0, rfl, a0, b0, z, i⟩;have z1 := i.size;replace K := (i.block w.heap.size (by omega) (by simp; omega)).trans K;replace L := L.trans (zB2 (S := fun b => b = g) i rfl);clear A i;have A := z;clear z;go_wp2_with fail
 refine (zAp B g 6 _ A (by omega) (by omega)).mono ?_;rintro e w2 ⟨x1, rfl, a1, b1, z, i⟩;have z2 := i.size;replace K := (i.block w.heap.size (by omega) (by simp; omega)).trans K;replace L := L.trans (zB2 (S := fun b => b = g) i rfl);clear A i;have A := z;clear z;go_wp2_with fail
 refine (zAp B g 6 _ A (by omega) (by omega)).mono ?_;rintro e w3 ⟨x2, rfl, a2, b2, z, i⟩;have z3 := i.size;replace K := (i.block w.heap.size (by omega) (by simp; omega)).trans K;replace L := L.trans (zB2 (S := fun b => b = g) i rfl);clear A i;have A := z;clear z;go_wp2_with fail
 refine (zAp B g 13 _ A (by omega) (by omega)).mono ?_;rintro e w4 ⟨x3, rfl, a3, b3, z, i⟩;have z4 := i.size;replace K := (i.block w.heap.size (by omega) (by simp; omega)).trans K;replace L := L.trans (zB2 (S := fun b => b = g) i rfl);clear A i;have A := z;clear z;go_wp2_with fail
 refine (zAp B g 4 _ A (by omega) (by omega)).mono ?_;rintro e w5 ⟨x4, rfl, a4, b4, z, i⟩;have z5 := i.size;replace K := (i.block w.heap.size (by omega) (by simp; omega)).trans K;replace L := L.trans (zB2 (S := fun b => b = g) i rfl);clear A i;have A := z;clear z;go_wp2_with fail
 refine (zAp B g 4 _ A (by omega) (by omega)).mono ?_;rintro e w6 ⟨x5, rfl, a5, b5, z, i⟩;have z6 := i.size;replace K := (i.block w.heap.size (by omega) (by simp; omega)).trans K;replace L := L.trans (zB2 (S := fun b => b = g) i rfl);clear A i;have A := z;clear z;go_wp2_with fail
 have D0 : DMsg B g w (w6.alloc (.cells #[nI x0, nI x1, nI x2, nI (1 + x3), nI x4, sL none 0 0, nI x5] 30)) w.heap.size w6.heap.size (x0, x1, x2, 1 + x3, x4, [], x5) none 0 := by
  refine ⟨zAw w6 _, zAW _ K, nil_ints _ _, ⟨zBe (x := x0) (by omega) (by omega), zBe (x := x1) (by omega) (by omega), zBe (x := x2) (by omega) (by omega), zBe (x := 1 + x3) (by omega) (by omega), zBe (x := x4) (by omega) (by omega), zBe (x := x5) (by omega) (by omega)⟩, by simp, zAQ A _, L.trans (zBp (zAg _ _)), Nat.le_refl _, by omega, by simp, dB, cB⟩
 clear K L A;generalize w6.alloc (.cells #[nI x0, nI x1, nI x2, nI (1 + x3), nI x4, sL none 0 0, nI x5] 30) = W1 at D0 ⊢;generalize w6.heap.size = mb at D0 ⊢;have lB := D0.lt;have eB : ∃ u U N, DMsg B g w W1 w.heap.size mb u U N := ⟨_, _, _, D0⟩;clear D0;obtain ⟨u, U, N, D0⟩ := eB;have A := D0.cur;have NA : Hid _ := D0;clear D0;refine (zBy B g 2 _ A (by omega) (by omega)).mono ?_;rintro e v1 ⟨b, rfl, z, i⟩;have G : Hid _ := zBG NA.out i z;clear A i NA;cases b
 ·go_wp2_with fail
  refine (zBy B g 14 _ z (by omega) (by omega)).mono ?_;rintro e v2 ⟨b, rfl, C2, g2⟩;have F : Hid _ := zBG G.out g2 C2;clear z g2 G;cases b
  ·have m : Hid _ := F.out;clear F C2;obtain ⟨O, Y, V, M, T, X, R⟩ := zAe m.out.box;obtain ⟨r0, r1, r2, r3, r4, r5, r6⟩ := zAe m.out.res;obtain ⟨q0, q1, q2, q3, q4, Z, q6⟩ := zAo m.out.res;have D := m.out.lt;go_wp2;exact zDW (u := u) m.out rfl rfl
  ·go_wp2_with fail
   refine (zAp B g 5 _ C2 (by omega) (by omega)).mono ?_;rintro e v3 ⟨k, rfl, I, H, o, g3⟩;have f : Hid _ := zBG F.out g3 o;clear C2 g3 F;obtain rfl | rfl | rfl | rfl | rfl : k = 0 ∨ k = 1 ∨ k = 2 ∨ k = 3 ∨ k = 4 := by omega
   ·have l := zBX o;go_wp2_with fail
    refine (zAp B g 2 _ (zAQ o _) (by omega) (by omega)).mono ?_;rintro e E ⟨k, rfl, I, H, C, r⟩
    obtain ⟨y, hy, c⟩ := zCd (n := 2) r l k I H (by
     intro j hj;obtain rfl | rfl : j = 0 ∨ j = 1 := by omega
     all_goals exact ⟨_, rfl, by decide, by decide⟩)
    have a := zBG (zD5 f.out _) r C;have m : Hid (DMsg B g w (E.setCell ⟨mb, 0, none⟩ (nI y)) w.heap.size mb (y, u.2.1, u.2.2.1, u.2.2.2.1, u.2.2.2.2.1, u.2.2.2.2.2.1, u.2.2.2.2.2.2) U N) := zMc a c;obtain ⟨O, Y, V, M, T, X, R⟩ := zAe a.box;obtain ⟨s0, s1, s2, s3, s4, s5, s6⟩ := zAo a.box;obtain ⟨r0, r1, r2, r3, r4, r5, r6⟩ := zAe a.res;obtain ⟨q0, q1, q2, q3, q4, Z, q6⟩ := zAo a.res;have D := a.lt;have s : ¬ w.heap.size = mb := by omega
    have v : ¬ mb = w.heap.size := by omega
    clear a C r o f c;go_wp2;exact zDW (u := (y, u.2.1, u.2.2.1, u.2.2.2.1, u.2.2.2.2.1, u.2.2.2.2.2.1, u.2.2.2.2.2.2)) m.out rfl rfl
   ·have l := zBX o;go_wp2_with fail
    refine (zAp B g 2 _ (zAQ o _) (by omega) (by omega)).mono ?_;rintro e E ⟨k, rfl, I, H, C, r⟩
    obtain ⟨y, hy, c⟩ := zCd (n := 2) r l k I H (by
     intro j hj;obtain rfl | rfl : j = 0 ∨ j = 1 := by omega
     all_goals exact ⟨_, rfl, by decide, by decide⟩)
    have a := zBG (zD5 f.out _) r C;have m : Hid (DMsg B g w (E.setCell ⟨mb, 1, none⟩ (nI y)) w.heap.size mb (u.1, y, u.2.2.1, u.2.2.2.1, u.2.2.2.2.1, u.2.2.2.2.2.1, u.2.2.2.2.2.2) U N) := zMd a c;obtain ⟨O, Y, V, M, T, X, R⟩ := zAe a.box;obtain ⟨s0, s1, s2, s3, s4, s5, s6⟩ := zAo a.box;obtain ⟨r0, r1, r2, r3, r4, r5, r6⟩ := zAe a.res;obtain ⟨q0, q1, q2, q3, q4, Z, q6⟩ := zAo a.res;have D := a.lt;have s : ¬ w.heap.size = mb := by omega
    have v : ¬ mb = w.heap.size := by omega
    clear a C r o f c;go_wp2;exact zDW (u := (u.1, y, u.2.2.1, u.2.2.2.1, u.2.2.2.2.1, u.2.2.2.2.2.1, u.2.2.2.2.2.2)) m.out rfl rfl
   ·have l := zBX o;go_wp2_with fail
    refine (zAp B g 3 _ (zAQ o _) (by omega) (by omega)).mono ?_;rintro e E ⟨k, rfl, I, H, C, r⟩
    obtain ⟨y, hy, c⟩ := zCd (n := 3) r l k I H (by
     intro j hj;obtain rfl | rfl | rfl : j = 0 ∨ j = 1 ∨ j = 2 := by omega
     all_goals exact ⟨_, rfl, by decide, by decide⟩)
    have a := zBG (zD5 f.out _) r C;have m : Hid (DMsg B g w (E.setCell ⟨mb, 3, none⟩ (nI y)) w.heap.size mb (u.1, u.2.1, u.2.2.1, y, u.2.2.2.2.1, u.2.2.2.2.2.1, u.2.2.2.2.2.2) U N) := zMe a c;obtain ⟨O, Y, V, M, T, X, R⟩ := zAe a.box;obtain ⟨s0, s1, s2, s3, s4, s5, s6⟩ := zAo a.box;obtain ⟨r0, r1, r2, r3, r4, r5, r6⟩ := zAe a.res;obtain ⟨q0, q1, q2, q3, q4, Z, q6⟩ := zAo a.res;have D := a.lt;have s : ¬ w.heap.size = mb := by omega
    have v : ¬ mb = w.heap.size := by omega
    clear a C r o f c;go_wp2;exact zDW (u := (u.1, u.2.1, u.2.2.1, y, u.2.2.2.2.1, u.2.2.2.2.2.1, u.2.2.2.2.2.2)) m.out rfl rfl
   ·have l := zBX o;go_wp2_with fail
    refine (zAp B g 3 _ (zAQ o _) (by omega) (by omega)).mono ?_;rintro e E ⟨k, rfl, I, H, C, r⟩
    obtain ⟨y, hy, c⟩ := zCd (n := 3) r l k I H (by
     intro j hj;obtain rfl | rfl | rfl : j = 0 ∨ j = 1 ∨ j = 2 := by omega
     all_goals exact ⟨_, rfl, by decide, by decide⟩)
    have a := zBG (zD5 f.out _) r C;have m : Hid (DMsg B g w (E.setCell ⟨mb, 4, none⟩ (nI y)) w.heap.size mb (u.1, u.2.1, u.2.2.1, u.2.2.2.1, y, u.2.2.2.2.2.1, u.2.2.2.2.2.2) U N) := zMf a c;obtain ⟨O, Y, V, M, T, X, R⟩ := zAe a.box;obtain ⟨s0, s1, s2, s3, s4, s5, s6⟩ := zAo a.box;obtain ⟨r0, r1, r2, r3, r4, r5, r6⟩ := zAe a.res;obtain ⟨q0, q1, q2, q3, q4, Z, q6⟩ := zAo a.res;have D := a.lt;have s : ¬ w.heap.size = mb := by omega
    have v : ¬ mb = w.heap.size := by omega
    clear a C r o f c;go_wp2;exact zDW (u := (u.1, u.2.1, u.2.2.1, u.2.2.2.1, y, u.2.2.2.2.2.1, u.2.2.2.2.2.2)) m.out rfl rfl
   ·go_wp2_with fail
    refine (zDg B g _ o).mono ?_;rintro e E ⟨vv, xs, rfl, KA, J, gl, cl, rfl, j1, j2, j3, j4⟩;have DR := zEm J j1 j2 j3 j4;have a := zBG f.out j4 j3;have m : Hid (DMsg B g w (E.setCell ⟨mb, 5, none⟩ (sL (some ⟨gl, 0, none⟩) xs.length cl)) w.heap.size mb (u.1, u.2.1, u.2.2.1, u.2.2.2.1, u.2.2.2.2.1, xs, u.2.2.2.2.2.2) (some ⟨gl, 0, none⟩) cl) := zJp a (zAm.own_mono DR.own (fun k hk => ⟨by have := hk.1; have := f.out.lt; omega, hk.2⟩)) KA;obtain ⟨O, Y, V, M, T, X, R⟩ := zAe a.box;obtain ⟨s0, s1, s2, s3, s4, s5, s6⟩ := zAo a.box;obtain ⟨r0, r1, r2, r3, r4, r5, r6⟩ := zAe a.res;obtain ⟨q0, q1, q2, q3, q4, Z, q6⟩ := zAo a.res;have D := a.lt;have s : ¬ w.heap.size = mb := by omega
    have v : ¬ mb = w.heap.size := by omega
    clear a DR j1 j2 j3 j4 o f J;go_wp2;exact zDW (u := (u.1, u.2.1, u.2.2.1, u.2.2.2.1, u.2.2.2.2.1, xs, u.2.2.2.2.2.2)) m.out rfl rfl
 ·go_wp2_with fail
  refine (zCi B g _ z).mono ?_;rintro e v5 ⟨gl, p, q, rfl, j1, J, j2, j3, j4⟩;have DR := zEm J j1 j2 j3 j4;have a := zBG G.out j4 j3;have D5 := zJp (a2 := some ⟨gl, 0, none⟩) (c2 := 2) (d := [p, q]) a (zAm.own_mono DR.own (fun k hk => ⟨by have := hk.1; have := G.out.lt; omega, hk.2⟩)) (by simp);obtain ⟨O, Y, V, M, T, X, R⟩ := zAe a.box;obtain ⟨s0, s1, s2, s3, s4, s5, s6⟩ := zAo a.box;have SA : ∃ u U N, DMsg B g w (v5.setCell ⟨mb, 5, none⟩ (sL (some ⟨gl, 0, none⟩) 2 2)) w.heap.size mb u U N := ⟨_, _, _, D5⟩;have IA : Hid _ := SA;clear a DR j1 j2 j3 j4 z G J D5 SA;go_wp2_with fail
  clear O Y V M T X R s0 s1 s2 s3 s4 s5 s6;generalize v5.setCell ⟨mb, 5, none⟩ (sL (some ⟨gl, 0, none⟩) 2 2) = W5 at IA ⊢;obtain ⟨u, U, N, D5⟩ := IA.out;have z := D5.cur;have G : Hid _ := D5;clear IA D5;refine (zBy B g 14 _ z (by omega) (by omega)).mono ?_;rintro e v2 ⟨b, rfl, C2, g2⟩;have F : Hid _ := zBG G.out g2 C2;clear z g2 G;cases b
  ·have m : Hid _ := F.out;clear F C2;obtain ⟨O, Y, V, M, T, X, R⟩ := zAe m.out.box;obtain ⟨r0, r1, r2, r3, r4, r5, r6⟩ := zAe m.out.res;obtain ⟨q0, q1, q2, q3, q4, Z, q6⟩ := zAo m.out.res;have D := m.out.lt;go_wp2;exact zDW (u := u) m.out rfl rfl
  ·go_wp2_with fail
   refine (zAp B g 5 _ C2 (by omega) (by omega)).mono ?_;rintro e v3 ⟨k, rfl, I, H, o, g3⟩;have f : Hid _ := zBG F.out g3 o;clear C2 g3 F;obtain rfl | rfl | rfl | rfl | rfl : k = 0 ∨ k = 1 ∨ k = 2 ∨ k = 3 ∨ k = 4 := by omega
   ·have l := zBX o;go_wp2_with fail
    refine (zAp B g 2 _ (zAQ o _) (by omega) (by omega)).mono ?_;rintro e E ⟨k, rfl, I, H, C, r⟩
    obtain ⟨y, hy, c⟩ := zCd (n := 2) r l k I H (by
     intro j hj;obtain rfl | rfl : j = 0 ∨ j = 1 := by omega
     all_goals exact ⟨_, rfl, by decide, by decide⟩)
    have a := zBG (zD5 f.out _) r C;have m : Hid (DMsg B g w (E.setCell ⟨mb, 0, none⟩ (nI y)) w.heap.size mb (y, u.2.1, u.2.2.1, u.2.2.2.1, u.2.2.2.2.1, u.2.2.2.2.2.1, u.2.2.2.2.2.2) U N) := zMc a c;obtain ⟨O, Y, V, M, T, X, R⟩ := zAe a.box;obtain ⟨s0, s1, s2, s3, s4, s5, s6⟩ := zAo a.box;obtain ⟨r0, r1, r2, r3, r4, r5, r6⟩ := zAe a.res;obtain ⟨q0, q1, q2, q3, q4, Z, q6⟩ := zAo a.res;have D := a.lt;have s : ¬ w.heap.size = mb := by omega
    have v : ¬ mb = w.heap.size := by omega
    clear a C r o f c;go_wp2;exact zDW (u := (y, u.2.1, u.2.2.1, u.2.2.2.1, u.2.2.2.2.1, u.2.2.2.2.2.1, u.2.2.2.2.2.2)) m.out rfl rfl
   ·have l := zBX o;go_wp2_with fail
    refine (zAp B g 2 _ (zAQ o _) (by omega) (by omega)).mono ?_;rintro e E ⟨k, rfl, I, H, C, r⟩
    obtain ⟨y, hy, c⟩ := zCd (n := 2) r l k I H (by
     intro j hj;obtain rfl | rfl : j = 0 ∨ j = 1 := by omega
     all_goals exact ⟨_, rfl, by decide, by decide⟩)
    have a := zBG (zD5 f.out _) r C;have m : Hid (DMsg B g w (E.setCell ⟨mb, 1, none⟩ (nI y)) w.heap.size mb (u.1, y, u.2.2.1, u.2.2.2.1, u.2.2.2.2.1, u.2.2.2.2.2.1, u.2.2.2.2.2.2) U N) := zMd a c;obtain ⟨O, Y, V, M, T, X, R⟩ := zAe a.box;obtain ⟨s0, s1, s2, s3, s4, s5, s6⟩ := zAo a.box;obtain ⟨r0, r1, r2, r3, r4, r5, r6⟩ := zAe a.res;obtain ⟨q0, q1, q2, q3, q4, Z, q6⟩ := zAo a.res;have D := a.lt;have s : ¬ w.heap.size = mb := by omega
    have v : ¬ mb = w.heap.size := by omega
    clear a C r o f c;go_wp2;exact zDW (u := (u.1, y, u.2.2.1, u.2.2.2.1, u.2.2.2.2.1, u.2.2.2.2.2.1, u.2.2.2.2.2.2)) m.out rfl rfl
   ·have l := zBX o;go_wp2_with fail
    refine (zAp B g 3 _ (zAQ o _) (by omega) (by omega)).mono ?_;rintro e E ⟨k, rfl, I, H, C, r⟩
    obtain ⟨y, hy, c⟩ := zCd (n := 3) r l k I H (by
     intro j hj;obtain rfl | rfl | rfl : j = 0 ∨ j = 1 ∨ j = 2 := by omega
     all_goals exact ⟨_, rfl, by decide, by decide⟩)
    have a := zBG (zD5 f.out _) r C;have m : Hid (DMsg B g w (E.setCell ⟨mb, 3, none⟩ (nI y)) w.heap.size mb (u.1, u.2.1, u.2.2.1, y, u.2.2.2.2.1, u.2.2.2.2.2.1, u.2.2.2.2.2.2) U N) := zMe a c;obtain ⟨O, Y, V, M, T, X, R⟩ := zAe a.box;obtain ⟨s0, s1, s2, s3, s4, s5, s6⟩ := zAo a.box;obtain ⟨r0, r1, r2, r3, r4, r5, r6⟩ := zAe a.res;obtain ⟨q0, q1, q2, q3, q4, Z, q6⟩ := zAo a.res;have D := a.lt;have s : ¬ w.heap.size = mb := by omega
    have v : ¬ mb = w.heap.size := by omega
    clear a C r o f c;go_wp2;exact zDW (u := (u.1, u.2.1, u.2.2.1, y, u.2.2.2.2.1, u.2.2.2.2.2.1, u.2.2.2.2.2.2)) m.out rfl rfl
   ·have l := zBX o;go_wp2_with fail
    refine (zAp B g 3 _ (zAQ o _) (by omega) (by omega)).mono ?_;rintro e E ⟨k, rfl, I, H, C, r⟩
    obtain ⟨y, hy, c⟩ := zCd (n := 3) r l k I H (by
     intro j hj;obtain rfl | rfl | rfl : j = 0 ∨ j = 1 ∨ j = 2 := by omega
     all_goals exact ⟨_, rfl, by decide, by decide⟩)
    have a := zBG (zD5 f.out _) r C;have m : Hid (DMsg B g w (E.setCell ⟨mb, 4, none⟩ (nI y)) w.heap.size mb (u.1, u.2.1, u.2.2.1, u.2.2.2.1, y, u.2.2.2.2.2.1, u.2.2.2.2.2.2) U N) := zMf a c;obtain ⟨O, Y, V, M, T, X, R⟩ := zAe a.box;obtain ⟨s0, s1, s2, s3, s4, s5, s6⟩ := zAo a.box;obtain ⟨r0, r1, r2, r3, r4, r5, r6⟩ := zAe a.res;obtain ⟨q0, q1, q2, q3, q4, Z, q6⟩ := zAo a.res;have D := a.lt;have s : ¬ w.heap.size = mb := by omega
    have v : ¬ mb = w.heap.size := by omega
    clear a C r o f c;go_wp2;exact zDW (u := (u.1, u.2.1, u.2.2.1, u.2.2.2.1, y, u.2.2.2.2.2.1, u.2.2.2.2.2.2)) m.out rfl rfl
   ·go_wp2_with fail
    refine (zDg B g _ o).mono ?_;rintro e E ⟨vv, xs, rfl, KA, J, gl, cl, rfl, j1, j2, j3, j4⟩;have DR := zEm J j1 j2 j3 j4;have a := zBG f.out j4 j3;have m : Hid (DMsg B g w (E.setCell ⟨mb, 5, none⟩ (sL (some ⟨gl, 0, none⟩) xs.length cl)) w.heap.size mb (u.1, u.2.1, u.2.2.1, u.2.2.2.1, u.2.2.2.2.1, xs, u.2.2.2.2.2.2) (some ⟨gl, 0, none⟩) cl) := zJp a (zAm.own_mono DR.own (fun k hk => ⟨by have := hk.1; have := f.out.lt; omega, hk.2⟩)) KA;obtain ⟨O, Y, V, M, T, X, R⟩ := zAe a.box;obtain ⟨s0, s1, s2, s3, s4, s5, s6⟩ := zAo a.box;obtain ⟨r0, r1, r2, r3, r4, r5, r6⟩ := zAe a.res;obtain ⟨q0, q1, q2, q3, q4, Z, q6⟩ := zAo a.res;have D := a.lt;have s : ¬ w.heap.size = mb := by omega
    have v : ¬ mb = w.heap.size := by omega
    clear a DR j1 j2 j3 j4 o f J;go_wp2;exact zDW (u := (u.1, u.2.1, u.2.2.1, u.2.2.2.1, u.2.2.2.2.1, xs, u.2.2.2.2.2.2)) m.out rfl rfl
end Go.Proofs.YtmaopldahnejdaaGreatDoor
