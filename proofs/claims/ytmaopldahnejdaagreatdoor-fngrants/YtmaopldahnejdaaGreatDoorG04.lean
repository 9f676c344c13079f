import Derived.Test.YtmaopldahnejdaaGreatDoorG00Box
import Derived.Test.YtmaopldahnejdaaGreatDoorG03
namespace Go.Proofs.YtmaopldahnejdaaGreatDoor
open Go.ChangeShapes Go.WideShapes Go.ChangeAt Go.RowKit
set_option linter.unusedVariables false
abbrev zA7 := Int × Int × Bool × Int × Int × Int × Int × List Int
abbrev zB6 : Rep zA7 := zCg zBf (zCg zBf (zCg boolR (zCg zBf (zCg zBf (zCg zBf (zCg zBf zAm))))))
abbrev zK7 : Mk zA7 := zEK zHV (zEK zHV (zEK boolM (zEK zHV (zEK zHV (zEK zHV (zEK zHV zDm))))))
abbrev zCS : Rep (List zA7) := slR 48 zB6
abbrev entsM : Mk (List zA7) := slM zK7
theorem zE0 {w : World} {cs : List Value} {u : zA7} (h : zB6.rd w cs u) :
    ∃ a b, cs = [nI u.1, nI u.2.1, .bool u.2.2.1, nI u.2.2.2.1, nI u.2.2.2.2.1, nI u.2.2.2.2.2.1, nI u.2.2.2.2.2.2.1, sL a u.2.2.2.2.2.2.2.length b] ∧ zA4 u.1 ∧ zA4 u.2.1 ∧ zA4 u.2.2.2.1 ∧ zA4 u.2.2.2.2.1 ∧ zA4 u.2.2.2.2.2.1 ∧ zA4 u.2.2.2.2.2.2.1 ∧ u.2.2.2.2.2.2.2.length ≤ b ∧ b ≤ maxLen ∧ zBv zBf w a u.2.2.2.2.2.2.2 := by
 obtain ⟨c0, e0, rfl, ⟨rfl, d⟩, c1, e1, rfl, ⟨rfl, m⟩, c2, e2, rfl, rfl, c3, e3, rfl, ⟨rfl, i⟩, c4, e4, rfl, ⟨rfl, c⟩, c5, e5, rfl, ⟨rfl, k⟩, c6, e6, rfl, ⟨rfl, f⟩, ⟨a, b, rfl, j, g, l⟩⟩ := h;exact ⟨a, b, rfl, d, m, i, c, k, f, j, g, l⟩
theorem zC8 {w : World} {S : zAN} {cs : List Value} {u : zA7} (h : zB6.own w S cs u) :
    ∃ v, cs = [nI u.1, nI u.2.1, .bool u.2.2.1, nI u.2.2.2.1, nI u.2.2.2.2.1, nI u.2.2.2.2.2.1, nI u.2.2.2.2.2.2.1, v] ∧ zA4 u.1 ∧ zA4 u.2.1 ∧ zA4 u.2.2.2.1 ∧ zA4 u.2.2.2.2.1 ∧ zA4 u.2.2.2.2.2.1 ∧ zA4 u.2.2.2.2.2.2.1 ∧ zAm.own w S [v] u.2.2.2.2.2.2.2 := by
 obtain ⟨c0, e0, S0, T0, rfl, ⟨rfl, j⟩, ⟨c1, e1, S1, T1, rfl, ⟨rfl, r⟩, ⟨c2, e2, S2, T2, rfl, rfl, ⟨c3, e3, S3, T3, rfl, ⟨rfl, p⟩, ⟨c4, e4, S4, T4, rfl, ⟨rfl, g⟩, ⟨c5, e5, S5, T5, rfl, ⟨rfl, q⟩, ⟨c6, l, S6, T6, rfl, ⟨rfl, k⟩, a, p6, f, d6⟩, p5, c, d5⟩, p4, b, d4⟩, p3, m, d3⟩, p2, d, d2⟩, p1, n, d1⟩, p0, o, d0⟩ := h;have i := zAm.rd_len (zAm.own_rd a);obtain ⟨v, rfl⟩ : ∃ v, l = [v] := List.length_eq_one_iff.1 i;exact ⟨v, rfl, j, r, p, g, q, k, zAm.own_mono a (((((((f).trans c).trans b).trans m).trans d).trans n).trans o)⟩
theorem zB3 {w : World} {S : zAN} {f0 f1 f3 f4 f5 f6 : Int} {f2 : Bool} {d : List Int} {v : Value} (i0 : zA4 f0) (i1 : zA4 f1) (i3 : zA4 f3) (i4 : zA4 f4) (i5 : zA4 f5) (i6 : zA4 f6) (h : zAm.own w S [v] d) : zB6.own w S [nI f0, nI f1, .bool f2, nI f3, nI f4, nI f5, nI f6, v] (f0, f1, f2, f3, f4, f5, f6, d) :=
 ⟨[_], [_, _, _, _, _, _, _], fun _ => False, S, rfl, ⟨rfl, i0⟩, ⟨[_], [_, _, _, _, _, _], fun _ => False, S, rfl, ⟨rfl, i1⟩, ⟨[_], [_, _, _, _, _], fun _ => False, S, rfl, rfl, ⟨[_], [_, _, _, _], fun _ => False, S, rfl, ⟨rfl, i3⟩, ⟨[_], [_, _, _], fun _ => False, S, rfl, ⟨rfl, i4⟩, ⟨[_], [_, _], fun _ => False, S, rfl, ⟨rfl, i5⟩, ⟨[_], [_], fun _ => False, S, rfl, ⟨rfl, i6⟩, h, fun _ h => h.elim, Sub.refl _, fun _ h _ => h⟩, fun _ h => h.elim, Sub.refl _, fun _ h _ => h⟩, fun _ h => h.elim, Sub.refl _, fun _ h _ => h⟩, fun _ h => h.elim, Sub.refl _, fun _ h _ => h⟩, fun _ h => h.elim, Sub.refl _, fun _ h _ => h⟩, fun _ h => h.elim, Sub.refl _, fun _ h _ => h⟩, fun _ h => h.elim, Sub.refl _, fun _ h _ => h⟩
theorem zKM (u : zA7) : zK7.bk u = zDm.bk u.2.2.2.2.2.2.2 := by
 show 0 + (0 + (0 + (0 + (0 + (0 + (0 + (zDm.bk u.2.2.2.2.2.2.2))))))) = _
 omega
theorem zAk {w : World} {g : Nat} {x0 x1 x2 x3 x4 x5 x6 x7 : Value} {t : TypeId} (h : w.heap[g]? = some (.cells #[x0, x1, x2, x3, x4, x5, x6, x7] t (0, 0))) :
    w.cell? ⟨g, 0, none⟩ = some x0 ∧ w.cell? ⟨g, 1, none⟩ = some x1 ∧ w.cell? ⟨g, 2, none⟩ = some x2 ∧ w.cell? ⟨g, 3, none⟩ = some x3 ∧ w.cell? ⟨g, 4, none⟩ = some x4 ∧ w.cell? ⟨g, 5, none⟩ = some x5 ∧ w.cell? ⟨g, 6, none⟩ = some x6 ∧ w.cell? ⟨g, 7, none⟩ = some x7 :=
 ⟨by rw [cell_of_row w g 0 _ t (0, 0) h]; rfl, by rw [cell_of_row w g 1 _ t (0, 0) h]; rfl, by rw [cell_of_row w g 2 _ t (0, 0) h]; rfl, by rw [cell_of_row w g 3 _ t (0, 0) h]; rfl, by rw [cell_of_row w g 4 _ t (0, 0) h]; rfl, by rw [cell_of_row w g 5 _ t (0, 0) h]; rfl, by rw [cell_of_row w g 6 _ t (0, 0) h]; rfl, by rw [cell_of_row w g 7 _ t (0, 0) h]; rfl⟩
theorem zA3 {w : World} {g : Nat} {cs : Array Value} {t : TypeId} (h : w.heap[g]? = some (.cells cs t (0, 0))) : w.frozen? ⟨g, 0, none⟩ = false ∧ w.frozen? ⟨g, 1, none⟩ = false ∧ w.frozen? ⟨g, 2, none⟩ = false ∧ w.frozen? ⟨g, 3, none⟩ = false ∧ w.frozen? ⟨g, 4, none⟩ = false ∧ w.frozen? ⟨g, 5, none⟩ = false ∧ w.frozen? ⟨g, 6, none⟩ = false ∧ w.frozen? ⟨g, 7, none⟩ = false :=
 ⟨frozen_of_row w g 0 _ t h, frozen_of_row w g 1 _ t h, frozen_of_row w g 2 _ t h, frozen_of_row w g 3 _ t h, frozen_of_row w g 4 _ t h, frozen_of_row w g 5 _ t h, frozen_of_row w g 6 _ t h, frozen_of_row w g 7 _ t h⟩
theorem zKN {w : World} {g : Nat} {x0 y0 x1 y1 x2 y2 x3 y3 x4 y4 x5 y5 x6 y6 x7 y7 : Value} {t : TypeId} (h : w.heap[g]? = some (.cells #[x0, x1, x2, x3, x4, x5, x6, x7] t (0, 0))) :
    ((((((((w.setCell ⟨g, 0, none⟩ y0).setCell ⟨g, 1, none⟩ y1).setCell ⟨g, 2, none⟩ y2).setCell ⟨g, 3, none⟩ y3).setCell ⟨g, 4, none⟩ y4).setCell ⟨g, 5, none⟩ y5).setCell ⟨g, 6, none⟩ y6).setCell ⟨g, 7, none⟩ y7).heap[g]? = some (.cells #[y0, y1, y2, y3, y4, y5, y6, y7] t (0, 0)) := by
 have b : (w.setCell ⟨g, 0, none⟩ y0).heap[g]? = some (.cells #[y0, x1, x2, x3, x4, x5, x6, x7] t (0, 0)) := heap_setCell_same _ g 0 _ t y0 h;have a : ((w.setCell ⟨g, 0, none⟩ y0).setCell ⟨g, 1, none⟩ y1).heap[g]? = some (.cells #[y0, y1, x2, x3, x4, x5, x6, x7] t (0, 0)) := heap_setCell_same _ g 1 _ t y1 b;have k : (((w.setCell ⟨g, 0, none⟩ y0).setCell ⟨g, 1, none⟩ y1).setCell ⟨g, 2, none⟩ y2).heap[g]? = some (.cells #[y0, y1, y2, x3, x4, x5, x6, x7] t (0, 0)) := heap_setCell_same _ g 2 _ t y2 a;have f : ((((w.setCell ⟨g, 0, none⟩ y0).setCell ⟨g, 1, none⟩ y1).setCell ⟨g, 2, none⟩ y2).setCell ⟨g, 3, none⟩ y3).heap[g]? = some (.cells #[y0, y1, y2, y3, x4, x5, x6, x7] t (0, 0)) := heap_setCell_same _ g 3 _ t y3 k;have d : (((((w.setCell ⟨g, 0, none⟩ y0).setCell ⟨g, 1, none⟩ y1).setCell ⟨g, 2, none⟩ y2).setCell ⟨g, 3, none⟩ y3).setCell ⟨g, 4, none⟩ y4).heap[g]? = some (.cells #[y0, y1, y2, y3, y4, x5, x6, x7] t (0, 0)) := heap_setCell_same _ g 4 _ t y4 f;have i : ((((((w.setCell ⟨g, 0, none⟩ y0).setCell ⟨g, 1, none⟩ y1).setCell ⟨g, 2, none⟩ y2).setCell ⟨g, 3, none⟩ y3).setCell ⟨g, 4, none⟩ y4).setCell ⟨g, 5, none⟩ y5).heap[g]? = some (.cells #[y0, y1, y2, y3, y4, y5, x6, x7] t (0, 0)) := heap_setCell_same _ g 5 _ t y5 d;have j : (((((((w.setCell ⟨g, 0, none⟩ y0).setCell ⟨g, 1, none⟩ y1).setCell ⟨g, 2, none⟩ y2).setCell ⟨g, 3, none⟩ y3).setCell ⟨g, 4, none⟩ y4).setCell ⟨g, 5, none⟩ y5).setCell ⟨g, 6, none⟩ y6).heap[g]? = some (.cells #[y0, y1, y2, y3, y4, y5, y6, x7] t (0, 0)) := heap_setCell_same _ g 6 _ t y6 i;have c : ((((((((w.setCell ⟨g, 0, none⟩ y0).setCell ⟨g, 1, none⟩ y1).setCell ⟨g, 2, none⟩ y2).setCell ⟨g, 3, none⟩ y3).setCell ⟨g, 4, none⟩ y4).setCell ⟨g, 5, none⟩ y5).setCell ⟨g, 6, none⟩ y6).setCell ⟨g, 7, none⟩ y7).heap[g]? = some (.cells #[y0, y1, y2, y3, y4, y5, y6, y7] t (0, 0)) := heap_setCell_same _ g 7 _ t y7 j;exact c
theorem Tryz.infoEntry : (Tryz.prog.info? 48).map (fun i => (i.zero, i.size, i.bytes)) = some (some (.agg #[nI 0, nI 0, .bool false, nI 0, nI 0, nI 0, nI 0, sL none 0 0]), 8, 80) := by kernel_rfl
variable {α β : Type}
theorem zKO {R : Rep α} {Q : Rep β} {w : World} {S : zAN} {cs ds : List Value} {x : α} {y : β} (h : (zCg R Q).own w S (cs ++ ds) (x, y)) (hl : cs.length = R.size) :
    ∃ b a, R.own w b cs x ∧ Q.own w a ds y ∧ Sub b S ∧ Sub a S ∧ Dis b a := by
 obtain ⟨c1, c2, b, a, e, c, f, g, i, d⟩ := h;obtain ⟨rfl, rfl⟩ := List.append_inj e (hl.trans (R.rd_len (R.own_rd c)).symm);exact ⟨b, a, c, f, g, i, d⟩
theorem zKP {R : Rep α} {Q : Rep β} {w : World} {cs ds : List Value} {x : α} {y : β} (h : (zCg R Q).rd w (cs ++ ds) (x, y)) (hl : cs.length = R.size) : R.rd w cs x ∧ Q.rd w ds y := by
 obtain ⟨c1, c2, e, a, b⟩ := h;obtain ⟨rfl, rfl⟩ := List.append_inj e (hl.trans (R.rd_len a).symm);exact ⟨a, b⟩
theorem zDQ {R : Rep α} {Q : Rep β} {w : World} {S S1 S2 : zAN} {cs ds : List Value} {x : α} {y : β} (h1 : R.own w S1 cs x) (h2 : Q.own w S2 ds y) (a1 : Sub S1 S) (a2 : Sub S2 S) (d : Dis S1 S2) : (zCg R Q).own w S (cs ++ ds) (x, y) :=
 ⟨cs, ds, S1, S2, rfl, h1, h2, a1, a2, d⟩
variable {α : Type}
def zAy (w : World) (g : Nat) : Nat → List Value → World
 | _, [] => w
 | o, v :: vs => zAy (w.setCell ⟨g, o, none⟩ v) g (o + 1) vs
def putA (cs : Array Value) : Nat → List Value → Array Value
 | _, [] => cs
 | o, v :: vs => putA (cs.setIfInBounds o v) (o + 1) vs
theorem zBK {g : Nat} {t : TypeId} : ∀ (vs : List Value) (o : Nat) {w : World} {cs : Array Value}, w.heap[g]? = some (.cells cs t (0, 0)) → (zAy w g o vs).heap[g]? = some (.cells (putA cs o vs) t (0, 0))
 | [], _, _, _, h => h
 | v :: vs, o, w, cs, h => zBK vs (o + 1) (heap_setCell_same w g o cs t v h)
theorem zEL {g : Nat} : ∀ (vs : List Value) (o : Nat) (w : World), Chg (fun k => k = g) w (zAy w g o vs)
 | [], _, w => Chg.refl _ w
 | v :: vs, o, w => (show Chg (fun k => k = g) w (w.setCell ⟨g, o, none⟩ v) from ⟨rfl, rfl, rfl, by simp, fun k hk hn => heap_setCell_other w ⟨g, o, none⟩ k v hn⟩).trans (zEL vs (o + 1) _)
theorem zAq {g : Nat} : ∀ (vs : List Value) (o : Nat) (w : World), (zAy w g o vs).heap.size = w.heap.size
 | [], _, _ => rfl
 | v :: vs, o, w => (zAq vs (o + 1) _).trans (by simp)
theorem zFW {a w : World} {B g o : Nat} {vs : List Value} (h : Below B a w) (hB : B ≤ w.heap.size) (hg : B ≤ g) : Below B a (zAy w g o vs) :=
 (zEL vs o w).below h (fun k hk => by have : k = g := hk; omega) hB
theorem zAv {a w : World} {g o : Nat} {vs : List Value} (h : Bl a w) (hg : a.heap.size ≤ g) : Bl a (zAy w g o vs) := zFW h h.size hg
theorem zAs {w : World} {k g o : Nat} {vs : List Value} {ob : Obj} (h : w.heap[k]? = some ob) (hn : k ≠ g) : (zAy w g o vs).heap[k]? = some ob :=
 ((zEL vs o w).block k (ltH h) hn).trans h
theorem zAX {R : Rep α} {w : World} {S : zAN} {cs : List Value} {x : α} {g o : Nat} {vs : List Value} (h : R.own w S cs x) (hg : ¬ S g) : R.own (zAy w g o vs) S cs x :=
 zBk h (zEL vs o w) fun k hk e => by have a : k = g := e; subst a; exact hg hk
theorem zBg {R : Rep α} {w : World} {lo hi : Nat} {cs : List Value} {x : α} {g o : Nat} {vs : List Value} (h : zHq R lo hi w cs x) (hg : g < lo ∨ hi ≤ g) : zHq R lo hi (zAy w g o vs) cs x :=
 ⟨zAX h.1 fun hk => by have := hk.1; have := hk.2; omega, by rw [zAq]; exact h.2⟩
theorem zKQ {e : TypeId} {R : Rep α} {w : World} {S : zAN} {cs : List Value} {x : α} (hs : 0 < R.size) (h : R.own w S cs x) (hS : ∀ k, S k → k < w.heap.size) : (slR e R).own (w.alloc (.cells cs.toArray e)) (fun k => S k ∨ k = w.heap.size) [sL (some ⟨w.heap.size, 0, none⟩) 1 1] [x] := by
 have a := R.rd_len (R.own_rd h);refine ⟨_, cs, S, rfl, World.ownsRow_lit w cs.toArray 1 (Nat.zero_le _) (by decide) (by simp [a]), fun g hg => ?_, fun k hk => .inl hk, ⟨cs, [], S, fun _ => False, by simp, zCY _ h, rfl, Sub.refl _, fun _ h => h.elim, fun _ _ h => h⟩⟩;simp [Value.ownBlock] at hg
 subst hg;exact ⟨.inr rfl, fun hk => Nat.lt_irrefl _ (hS _ hk)⟩
theorem zHr {e : TypeId} {R : Rep α} (w : World) : (slR e R).own (w.alloc (.cells #[] e)) (fun k => k = w.heap.size) [sL (some ⟨w.heap.size, 0, none⟩) 0 0] [] := by
 refine ⟨_, [], fun _ => False, rfl, World.ownsRow_lit w #[] 0 (Nat.zero_le _) (by decide) (by simp), fun g hg => ?_, fun _ h => h.elim, rfl⟩;simp [Value.ownBlock] at hg
 subst hg;exact ⟨rfl, fun h => h⟩
abbrev zA2 := List (List Int) × List zA7
abbrev zAz : Rep zA2 := zCg zBY zCS
abbrev zC3 : Mk zA2 := zEK rowsM entsM
theorem zEM {l : List Value} (h : l.length = 1) : ∃ a0, l = [a0] := by
 match l, h with
 | [a0], _ => exact ⟨a0, rfl⟩
theorem zBW {w : World} {cs : List Value} {x : zA2} (h : zAz.rd w cs x) : ∃ b a, cs = [b, a] ∧ zBY.rd w [b] x.1 ∧ zCS.rd w [a] x.2 := by
 obtain ⟨c0, e0, rfl, d, c⟩ := h;obtain ⟨b, rfl⟩ := zEM (zBY.rd_len d);obtain ⟨a, rfl⟩ := zEM (zCS.rd_len c);exact ⟨b, a, rfl, d, c⟩
theorem zAd {w : World} {g : Nat} {x0 x1 : Value} {t : TypeId} (h : w.heap[g]? = some (.cells #[x0, x1] t (0, 0))) : w.cell? ⟨g, 0, none⟩ = some x0 ∧ w.cell? ⟨g, 1, none⟩ = some x1 :=
 ⟨by rw [cell_of_row w g 0 _ t (0, 0) h]; rfl, by rw [cell_of_row w g 1 _ t (0, 0) h]; rfl⟩
theorem zDH {w : World} {S : zAN} {cs : List Value} {x : zA2} (h : zAz.own w S cs x) : ∃ c b a S1, cs = [c, b] ∧ zBY.own w a [c] x.1 ∧ zCS.own w S1 [b] x.2 ∧ Sub a S ∧ Sub S1 S ∧ Dis a S1 := by
 obtain ⟨c0, e0, a, i, rfl, f, d, j, k, g⟩ := h;obtain ⟨c, rfl⟩ := zEM (zBY.rd_len (zBY.own_rd f));obtain ⟨b, rfl⟩ := zEM (zCS.rd_len (zCS.own_rd d));exact ⟨c, b, a, i, rfl, f, d, j, (Sub.refl _).trans k, g.sub (Sub.refl _) (Sub.refl _)⟩
theorem zCt {w : World} {S S0 S1 : zAN} {v0 v1 : Value} {x : zA2}  (h0 : zBY.own w S0 [v0] x.1) (h1 : zCS.own w S1 [v1] x.2) (s0 : Sub S0 S) (s1 : Sub S1 S) (d01 : Dis S0 S1) : zAz.own w S [v0, v1] x := by
 exact ⟨[v0], [v1], S0, S1, rfl, h0, h1, s0, (fun q h => s1 q h), (fun q a h => d01 q a h)⟩
theorem zA1 {w : World} {g : Nat} {cs : Array Value} {t : TypeId} (h : w.heap[g]? = some (.cells cs t (0, 0))) : w.frozen? ⟨g, 0, none⟩ = false ∧ w.frozen? ⟨g, 1, none⟩ = false :=
 ⟨frozen_of_row w g 0 _ t h, frozen_of_row w g 1 _ t h⟩
theorem zCu {w : World} {g : Nat} {x0 x1 y0 y1 : Value} {t : TypeId} (h : w.heap[g]? = some (.cells #[x0, x1] t (0, 0))) : ((w.setCell ⟨g, 0, none⟩ (y0)).setCell ⟨g, 1, none⟩ (y1)).heap[g]? = some (.cells #[y0, y1] t (0, 0)) := by
 have a : (w.setCell ⟨g, 0, none⟩ (y0)).heap[g]? = some (.cells #[y0, x1] t (0, 0)) := heap_setCell_same _ g 0 _ t y0 h;have b : ((w.setCell ⟨g, 0, none⟩ (y0)).setCell ⟨g, 1, none⟩ (y1)).heap[g]? = some (.cells #[y0, y1] t (0, 0)) := heap_setCell_same _ g 1 _ t y1 a;exact b
theorem zB4 {w : World} {cs : List Value} {x : zA2} (h : zAz.rd w cs x) : ∃ (d : Option Addr) (a : Nat) (b : Option Addr) (c : Nat), cs = [sL d x.1.length a, sL b x.2.length c] := by
 obtain ⟨v0, v1, rfl, j, i⟩ := zBW h;obtain ⟨d, a, f, -⟩ := j;simp only [List.cons.injEq, and_true] at f;obtain rfl := f;obtain ⟨b, c, g, -⟩ := i;simp only [List.cons.injEq, and_true] at g;obtain rfl := g;exact ⟨d, a, b, c, rfl⟩
def badP {α : Type} (p : α → Bool) (xs : List α) : Int := match xs.findIdx? (fun u => !p u) with
 | some i => (i : Int)
 | none => -1
theorem badP_at {α : Type} {p : α → Bool} {xs : List α} {k : Nat} {u : α} (hu : xs[k]? = some u) (hp : p u = false) (hno : ∀ j v, j < k → xs[j]? = some v → p v = true) : badP p xs = (k : Int) := by
 have a := (List.getElem?_eq_some_iff.1 hu).1;have : xs.findIdx? (fun u => !p u) = some k := by
  rw [List.findIdx?_eq_some_iff_getElem];refine ⟨a, ?_, fun j hj => ?_⟩
  ·rw [List.getElem?_eq_getElem a] at hu;cases hu;simp [hp]
  ·have := hno j _ hj (List.getElem?_eq_getElem (by omega));simp [this]
 unfold badP;rw [this]
theorem zKR {α : Type} {p : α → Bool} {xs : List α} (hno : ∀ (j : Nat) (v : α), xs[j]? = some v → p v = true) : badP p xs = -1 := by
 have : xs.findIdx? (fun u => !p u) = none := by
  rw [List.findIdx?_eq_none_iff];intro u b;obtain ⟨j, a⟩ := List.getElem?_of_mem b;simp [hno j u a]
 unfold badP;rw [this]
theorem badP_all {α : Type} (p : α → Bool) (xs : List α) : xs.all p = decide (badP p xs < 0) := by
 cases h : xs.all p
 ·have b : ¬ ∀ x ∈ xs, p x = true := fun hh => by rw [List.all_eq_true.2 hh] at h; cases h
  cases a : xs.findIdx? (fun u => !p u) with
  | none =>
   rw [List.findIdx?_eq_none_iff] at a;exact (b fun x hx => by have := a x hx; simpa using this).elim
  | some i => simp [badP, a]
 ·rw [zKR fun j v hv => List.all_eq_true.1 h v (List.mem_of_getElem? hv)];rfl
set_option maxHeartbeats 400000 in
theorem zKe (k : Int) (w : World) : Calls Tryz.prog 133 #[nI k] w fun e a => e = .returned (.bool (okW k)) ∧ a = w := by
 go_enter Tryz.func133, Tryz.ntmps133;go_wp2_with (go_at_call 58; refine (zAx _ _ _ _).mono ?_; rintro e a ⟨rfl, rfl⟩)
 go_ret
 exact ⟨rfl, rfl⟩
set_option maxHeartbeats 400000 in
theorem zD8 (a : Option Addr) (n cap : Nat) (w : World) (hn : n ≠ 2) :
    Calls Tryz.prog 103 #[sL a n cap] w fun e w' => e = .returned (.bool false) ∧ w' = w := by
 have b : ((n : Int) == 2) = false := by simp; omega
 go_enter Tryz.func103, Tryz.ntmps103;go_wp2;go_ret
 exact ⟨rfl, rfl⟩
set_option maxHeartbeats 400000 in
theorem zG1 (a : Option Addr) (x y : Int) (cap : Nat) (w : World) (h : zBr w a [x, y]) :
    Calls Tryz.prog 103 #[sL a 2 cap] w fun e c => e = .returned (.bool (okW x && okW y)) ∧ c = w := by
 obtain ⟨b, d, rfl, c0, c1⟩ := zDr h;clear h;cases hx : okW x <;> cases hy : okW y
 all_goals
  go_enter Tryz.func103, Tryz.ntmps103;go_wp2_with (go_at_call 133; refine (zKe _ _).mono ?_; rintro e c ⟨rfl, rfl⟩)
  go_ret
  exact ⟨rfl, rfl⟩
theorem zCJ (a : Option Addr) (xs : List Int) (cap : Nat) (w : World) (h : zBr w a xs) :
    Calls Tryz.prog 103 #[sL a xs.length cap] w fun e w' => e = .returned (.bool (isL xs)) ∧ w' = w := by
 match xs with
 | [x, y] => exact zG1 a x y cap w h
 | [] => exact zD8 a 0 cap w (by simp)
 | [_] => exact zD8 a 1 cap w (by simp)
 | _ :: _ :: _ :: r => exact zD8 a (r.length + 1 + 1 + 1) cap w (by omega)
theorem zFJ {w w1 : World} {g cap : Nat} {zs : List Int} (h : zCW w.heap.size w1 g cap zs) (hb : Bl w w1) (k : Nat) (u : Int) :
    zCH w (w1.setCell ⟨g, k, none⟩ (nI u)) (sL (some ⟨g, 0, none⟩) zs.length cap) (zs.set k u) := by
 have a := h.lt g rfl;have S := World.ownsRow.stored h k (nI u);refine ⟨g, cap, by simp, a.1, by simpa using a.2, ?_, hb.grown S.2 hb.size (by intro j b; cases b; exact a.1)⟩;have := S.1;unfold zCW;rw [List.length_set, List.map_set];exact this
theorem zKf {B g cap : Nat} {w : World} {x y : Int} (h : zCW B w g cap [x, y]) :
    w.cell? ⟨g, 0, none⟩ = some (nI x) ∧ w.cell? ⟨g, 1, none⟩ = some (nI y) ∧ w.frozen? ⟨g, 0, none⟩ = false ∧ w.frozen? ⟨g, 1, none⟩ = false :=
 ⟨by rw [World.ownsRow.cellAt h 0 (by simp)]; rfl, by rw [World.ownsRow.cellAt h 1 (by simp)]; rfl, World.ownsRow.frozenAt h 0, World.ownsRow.frozenAt h 1⟩
def zAY (k f l m : Int) (d : List Int) : Bool := decide (k = 0) && (decide (f = 0) && (decide (l = 0) && (decide (m = 0) && decide (d.length = 0))))
def zBS (k f l : Int) : Bool := if k ≤ 2 then zA6 f 0 3 else decide (f = 5) && !decide (l = 0)
def zCo (k m : Int) (d : List Int) : Bool := if k = 4 then zA6 m 0 3 && isL d else decide (m = 0) && decide (d.length = 0)
def zAA (k f l m : Int) (d : List Int) : Bool := zA6 k 1 4 && (zA6 l 0 4 && (zBS k f l && zCo k m d))
def zAI (o s : Int) : Bool := zA6 o (-1) 3 && (zA6 s 0 15 && !(decide (0 ≤ o) && !decide (s = 0)))
def zBR (u : zA7) : Bool := zAI u.1 u.2.1 && (if u.2.2.1 then zAA u.2.2.2.1 u.2.2.2.2.1 u.2.2.2.2.2.1 u.2.2.2.2.2.2.1 u.2.2.2.2.2.2.2 else zAY u.2.2.2.1 u.2.2.2.2.1 u.2.2.2.2.2.1 u.2.2.2.2.2.2.1 u.2.2.2.2.2.2.2)
theorem eb {o s : Int} {b : Bool} {k f l m : Int} {d : List Int} : zBR (o, s, b, k, f, l, m, d) = (zAI o s && (if b then zAA k f l m d else zAY k f l m d)) := rfl
end Go.Proofs.YtmaopldahnejdaaGreatDoor
