import Derived.Test.YtcocbafhcpdheaaGreatDoorT00Box
import Derived.Test.YtcocbafhcpdheaaGreatDoorT14
namespace Go.Proofs.YtcocbafhcpdheaaGreatDoor
set_option maxHeartbeats 4000000
open Go.ChangeShapes Go.WideShapes Go.ChangeAt Go.RowKit
set_option linter.unusedVariables false
abbrev FevD := Int × Int × Int × Int × Int × Int × Int × List Int × Int
abbrev fevR : Rep FevD := zBp zAG (zBp zAG (zBp zAG (zBp zAG (zBp zAG (zBp zAG (zBp zAG (zBp zA0 zAG)))))))
abbrev zFX : Mk FevD := zBm zBa (zBm zBa (zBm zBa (zBm zBa (zBm zBa (zBm zBa (zBm zBa (zBm zAs zBa)))))))
abbrev fevsR : Rep (List FevD) := slR 123 fevR
theorem zNN {w : World} {S : zBo} {cs : List Value} {u : FevD} (h : fevR.own w S cs u) :
    ∃ v, cs = [.int .i64 u.1, .int .i64 u.2.1, .int .i64 u.2.2.1, .int .i64 u.2.2.2.1, .int .i64 u.2.2.2.2.1, .int .i64 u.2.2.2.2.2.1, .int .i64 u.2.2.2.2.2.2.1, v, .int .i64 u.2.2.2.2.2.2.2.2] ∧ zAN u.1 ∧ zAN u.2.1 ∧ zAN u.2.2.1 ∧ zAN u.2.2.2.1 ∧ zAN u.2.2.2.2.1 ∧ zAN u.2.2.2.2.2.1 ∧ zAN u.2.2.2.2.2.2.1 ∧ zAN u.2.2.2.2.2.2.2.2 ∧ zA0.own w S [v] u.2.2.2.2.2.2.2.1 := by
 obtain ⟨c0, e0, S0, T0, rfl, ⟨rfl, o⟩, ⟨c1, e1, S1, T1, rfl, ⟨rfl, n⟩, ⟨c2, e2, S2, T2, rfl, ⟨rfl, j⟩, ⟨c3, e3, S3, T3, rfl, ⟨rfl, l⟩, ⟨c4, e4, S4, T4, rfl, ⟨rfl, z⟩, ⟨c5, e5, S5, T5, rfl, ⟨rfl, c⟩, ⟨c6, e6, S6, T6, rfl, ⟨rfl, s⟩, ⟨p, e7, S7, T7, rfl, a, ⟨rfl, k⟩, i, q7, d7⟩, p6, d, d6⟩, p5, m, d5⟩, p4, q, d4⟩, p3, f, d3⟩, p2, r, d2⟩, p1, g, d1⟩, p0, b, d0⟩ := h;have y := zA0.rd_len (zA0.own_rd a);obtain ⟨v, rfl⟩ : ∃ v, p = [v] := List.length_eq_one_iff.1 y;exact ⟨v, rfl, o, n, j, l, z, c, s, k, zA0.own_mono a ((((((((i).trans d).trans m).trans q).trans f).trans r).trans g).trans b)⟩
theorem zNO {w : World} {S : zBo} {f0 f1 f2 f3 f4 f5 f6 f8 : Int} {d : List Int} {v : Value} (i0 : zAN f0) (i1 : zAN f1) (i2 : zAN f2) (i3 : zAN f3) (i4 : zAN f4) (i5 : zAN f5) (i6 : zAN f6) (i8 : zAN f8) (h : zA0.own w S [v] d) : fevR.own w S [.int .i64 f0, .int .i64 f1, .int .i64 f2, .int .i64 f3, .int .i64 f4, .int .i64 f5, .int .i64 f6, v, .int .i64 f8] (f0, f1, f2, f3, f4, f5, f6, d, f8) :=
 ⟨[_], [_, _, _, _, _, _, _, _], fun _ => False, S, rfl, ⟨rfl, i0⟩, ⟨[_], [_, _, _, _, _, _, _], fun _ => False, S, rfl, ⟨rfl, i1⟩, ⟨[_], [_, _, _, _, _, _], fun _ => False, S, rfl, ⟨rfl, i2⟩, ⟨[_], [_, _, _, _, _], fun _ => False, S, rfl, ⟨rfl, i3⟩, ⟨[_], [_, _, _, _], fun _ => False, S, rfl, ⟨rfl, i4⟩, ⟨[_], [_, _, _], fun _ => False, S, rfl, ⟨rfl, i5⟩, ⟨[_], [_, _], fun _ => False, S, rfl, ⟨rfl, i6⟩, ⟨[_], [_], S, fun _ => False, rfl, h, ⟨rfl, i8⟩, Sub.refl _, fun _ h => h.elim, fun _ _ h => h⟩, fun _ h => h.elim, Sub.refl _, fun _ h _ => h⟩, fun _ h => h.elim, Sub.refl _, fun _ h _ => h⟩, fun _ h => h.elim, Sub.refl _, fun _ h _ => h⟩, fun _ h => h.elim, Sub.refl _, fun _ h _ => h⟩, fun _ h => h.elim, Sub.refl _, fun _ h _ => h⟩, fun _ h => h.elim, Sub.refl _, fun _ h _ => h⟩, fun _ h => h.elim, Sub.refl _, fun _ h _ => h⟩
def zFr (u : zBr) : FevD := (u.1, u.2.1.1, u.2.1.2.1, u.2.1.2.2.1, u.2.1.2.2.2, u.2.2.1, u.2.2.2.1, u.2.2.2.2.1, u.2.2.2.2.2)
theorem ev_own {w : World} {S : zBo} {cs : List Value} {u : zBr} : zA9.own w S cs u ↔ fevR.own w S cs (zFr u) := by
 constructor
 ·intro h;obtain ⟨v1, v2, v3, v4, v7, S1, S4, rfl, j, f, i, a, m, g, s1, n, -⟩ := zNK h;obtain ⟨l, k, b, c, d⟩ := zJX (opR.own_rd m);simp only [List.cons.injEq, and_true] at l;obtain ⟨rfl, rfl, rfl, rfl⟩ := l;exact zNO j k b c d f i a (zA0.own_mono g n)
 ·intro h;obtain ⟨v, rfl, j, k, b, c, d, f, i, a, g⟩ := zNN h;exact zJo j f i a (zFG (S := fun _ => False) (u := u.2.1) ⟨k, b, c, d⟩) g (fun _ h => h.elim) (Sub.refl _) (fun _ h _ => h)
theorem zGo {α β : Type} {R : Rep α} {Q : Rep β} {f : α → β} (h : ∀ {w : World} {S : zBo} {cs : List Value} {x : α}, R.own w S cs x ↔ Q.own w S cs (f x)) {w : World} : ∀ {S : zBo} {cs : List Value} {xs : List α}, zIB R w S cs xs ↔ zIB Q w S cs (xs.map f)
 | _, _, [] => Iff.rfl
 | S, cs, x :: xs => ⟨fun ⟨c1, c2, S1, S2, e, h1, h2, r⟩ => ⟨c1, c2, S1, S2, e, h.1 h1, (zGo h).1 h2, r⟩, fun ⟨c1, c2, S1, S2, e, h1, h2, r⟩ => ⟨c1, c2, S1, S2, e, h.2 h1, (zGo h).2 h2, r⟩⟩
theorem zJq {α β : Type} {e : TypeId} {R : Rep α} {Q : Rep β} {f : α → β} (h : ∀ {w : World} {S : zBo} {cs : List Value} {x : α}, R.own w S cs x ↔ Q.own w S cs (f x)) (hs : R.size = Q.size) {w : World} {S : zBo} {cs : List Value} {xs : List α} : (slR e R).own w S cs xs ↔ (slR e Q).own w S cs (xs.map f) := by
 constructor
 ·rintro ⟨v, a, c, b, r, g, s, l⟩;exact ⟨v, a, c, b, by rw [List.length_map, ← hs]; exact r, g, s, (zGo h).1 l⟩
 ·rintro ⟨v, a, c, b, r, g, s, l⟩;exact ⟨v, a, c, b, by rw [List.length_map, ← hs] at r; exact r, g, s, (zGo h).2 l⟩
theorem zNP (x : zBr) : zBs.cE x = zFX.cE (zFr x) := by
 show 1 + ((1 + (1 + (1 + 1))) + (1 + (1 + (zAt zBa x.2.2.2.2.1 + 1)))) = 1 + (1 + (1 + (1 + (1 + (1 + (1 + (zAt zBa x.2.2.2.2.1 + 1)))))))
 omega
theorem flat_mE (k : Int) (x : zBr) : zFr (zBs.mE k x) = zFX.mE k (zFr x) := by
 refine Prod.ext rfl (Prod.ext rfl (Prod.ext rfl (Prod.ext rfl (Prod.ext rfl (Prod.ext ?_ (Prod.ext ?_ (Prod.ext ?_ ?_)))))))
 ·show k + ((1 : Nat) : Int) + ((1 + (1 + (1 + 1)) : Nat) : Int) = k + ((1 : Nat) : Int) + ((1 : Nat) : Int) + ((1 : Nat) : Int) + ((1 : Nat) : Int) + ((1 : Nat) : Int)
  omega
 ·show k + ((1 : Nat) : Int) + ((1 + (1 + (1 + 1)) : Nat) : Int) + ((1 : Nat) : Int) = k + ((1 : Nat) : Int) + ((1 : Nat) : Int) + ((1 : Nat) : Int) + ((1 : Nat) : Int) + ((1 : Nat) : Int) + ((1 : Nat) : Int)
  omega
 ·show zAT zBa (k + ((1 : Nat) : Int) + ((1 + (1 + (1 + 1)) : Nat) : Int) + ((1 : Nat) : Int) + ((1 : Nat) : Int)) x.2.2.2.2.1 = zAT zBa (k + ((1 : Nat) : Int) + ((1 : Nat) : Int) + ((1 : Nat) : Int) + ((1 : Nat) : Int) + ((1 : Nat) : Int) + ((1 : Nat) : Int) + ((1 : Nat) : Int)) x.2.2.2.2.1
  congr 1
  omega
 ·show k + ((1 : Nat) : Int) + ((1 + (1 + (1 + 1)) : Nat) : Int) + ((1 : Nat) : Int) + ((1 : Nat) : Int) + ((zAt zBa x.2.2.2.2.1 : Nat) : Int) = k + ((1 : Nat) : Int) + ((1 : Nat) : Int) + ((1 : Nat) : Int) + ((1 : Nat) : Int) + ((1 : Nat) : Int) + ((1 : Nat) : Int) + ((1 : Nat) : Int) + ((zAt zBa x.2.2.2.2.1 : Nat) : Int)
  omega
theorem flat_cnt (xs : List zBr) : zAt zBs xs = zAt zFX (xs.map zFr) := by
 unfold zAt;rw [List.map_map];congr 1
 exact List.map_congr_left fun x _ => zNP x
theorem zJr : ∀ (k : Int) (xs : List zBr), (zAT zBs k xs).map zFr = zAT zFX k (xs.map zFr)
 | _, [] => rfl
 | k, x :: xs => by
  show zFr (zBs.mE k x) :: (zAT zBs (k + (zBs.cE x : Int)) xs).map zFr = zFX.mE k (zFr x) :: zAT zFX (k + (zFX.cE (zFr x) : Int)) (xs.map zFr)
  rw [flat_mE, zJr, zNP]
theorem zCq {S : zBo} {w W : World} {g o : Nat} {v : Value} (h : Chg S w W) (hg : S g) : Chg S w (W.setCell ⟨g, o, none⟩ v) :=
 ⟨h.os, h.tape, h.output, by have := h.size; simpa using this, fun k hk hn => by rw [heap_setCell_other _ ⟨g, o, none⟩ k _ (fun e => hn (by rw [e]; exact hg))]; exact h.block k hk hn⟩
theorem zD6 {k : Int} (h0 : 0 ≤ k) (h1 : k ≤ 1152921504606846976) : zAN k := by constructor <;> omega
theorem cnt_fev (x : FevD) : zFX.cE x = (1 + (1 + (1 + (1 + (1 + (1 + (1 + (zAt zBa x.2.2.2.2.2.2.2.1 + 1)))))))) := rfl
theorem cnt_fevs (xs : List FevD) : xs.length ≤ zAt zFX xs := by
 induction xs with
 | nil => exact Nat.zero_le _
 | cons x xs ih =>
  simp only [zAt, List.map_cons, List.sum_cons, List.length_cons] at ih ⊢;have := cnt_fev x;omega
theorem zHm (k : Int) (w : World) :
    Calls Tryz.prog 48 #[.slice none 0 0, .int .i64 k] w fun e' w' => e' = .returned (.int .i64 k) ∧ w' = w := by
 go_enter Tryz.func48, Tryz.ntmps48;go_wp2;refine wp_loop_rounds 1 ?_;rw [rounds_succ];go_wp2;go_ret
 exact ⟨rfl, rfl⟩
theorem zHn (S : zBo) (v : Value) (k : Int) (xs : List FevD) (w : World) (h0 : 0 ≤ k) (h1 : k ≤ 288230376151711744) (hm : zAt zFX xs ≤ 288230376151711744) (h : fevsR.own w S [v] xs) :
    Calls Tryz.prog 48 #[v, .int .i64 k] w fun e' d => e' = .returned (.int .i64 (k + zAt zFX xs)) ∧ fevsR.own d S [v] (zAT zFX k xs) ∧ Chg S w d := by
 have RA := cnt_fevs xs;rcases zCg h with ⟨rfl, rfl⟩ | ⟨G, C, rfl, hG⟩
 ·exact (zHm k w).mono fun e d ⟨e1, e2⟩ => ⟨by simpa [zAt] using e1, by rw [e2]; exact h, by rw [e2]; exact Chg.refl _ _⟩
 go_enter Tryz.func48, Tryz.ntmps48;go_wp2;go_loopw [1, 5] (fun q i wr => ∃ j : Nat, j ≤ xs.length ∧ i = .int .i64 j ∧ q = .int .i64 (k + zAt zFX (xs.take j)) ∧ fevsR.own wr S [.slice (some ⟨G, 0, none⟩) xs.length C] (zCP zFX k xs j) ∧ Chg S w wr)
  (fun _ i _ => xs.length - (intOf i).toNat)
 case atStart => exact ⟨0, Nat.zero_le _, rfl, by simp [zAt], by rw [zCv]; exact h, Chg.refl _ _⟩
 case round =>
  obtain ⟨j, hj, rfl, rfl, K, hs⟩ := hrel;by_cases dA : j < xs.length
  ·have mA : (j : Int) < (xs.length : Int) := by omega
   obtain ⟨x, y⟩ : ∃ x, xs[j]? = some x := ⟨_, List.getElem?_eq_getElem dA⟩;have HT : Hid (zAt zFX (xs.take (j + 1)) = zAt zFX (xs.take j) + (1 + (1 + (1 + (1 + (1 + (1 + (1 + (zAt zBa x.2.2.2.2.2.2.2.1 + 1))))))))) := zCf (M := zFX) y;have hT : zAt zFX (xs.take j) + (1 + (1 + (1 + (1 + (1 + (1 + (1 + (zAt zBa x.2.2.2.2.2.2.2.1 + 1)))))))) ≤ zAt zFX xs := zCE (M := zFX) y;have A : Hid _ := zCw (M := zFX) (k := k) y;obtain ⟨g, oA, f, Sj, T, c, hv, l, a, b, X, s, Y, s2, s3, n, s5, o⟩ := zCl K (zCW y);simp only [Value.slice.injEq, Option.some.injEq, Addr.mk.injEq, and_true] at hv;obtain ⟨rfl, N⟩ := hv;obtain ⟨vd, rfl, -, -, -, -, -, -, -, -, z⟩ := zNN s;obtain ⟨D, H, rfl⟩ := zBx z;have q0 : wr.cell? ⟨G, j * 9, none⟩ = some (.int .i64 x.1) := by rw [cell_of_row wr G _ f _ (0, 0) a]; exact b 0 (by decide)
   have q1 : wr.cell? ⟨G, j * 9 + 1, none⟩ = some (.int .i64 x.2.1) := by rw [cell_of_row wr G _ f _ (0, 0) a]; exact b 1 (by decide)
   have q2 : wr.cell? ⟨G, j * 9 + 2, none⟩ = some (.int .i64 x.2.2.1) := by rw [cell_of_row wr G _ f _ (0, 0) a]; exact b 2 (by decide)
   have q3 : wr.cell? ⟨G, j * 9 + 3, none⟩ = some (.int .i64 x.2.2.2.1) := by rw [cell_of_row wr G _ f _ (0, 0) a]; exact b 3 (by decide)
   have q4 : wr.cell? ⟨G, j * 9 + 4, none⟩ = some (.int .i64 x.2.2.2.2.1) := by rw [cell_of_row wr G _ f _ (0, 0) a]; exact b 4 (by decide)
   have q5 : wr.cell? ⟨G, j * 9 + 5, none⟩ = some (.int .i64 x.2.2.2.2.2.1) := by rw [cell_of_row wr G _ f _ (0, 0) a]; exact b 5 (by decide)
   have q6 : wr.cell? ⟨G, j * 9 + 6, none⟩ = some (.int .i64 x.2.2.2.2.2.2.1) := by rw [cell_of_row wr G _ f _ (0, 0) a]; exact b 6 (by decide)
   have q7 : wr.cell? ⟨G, j * 9 + 7, none⟩ = some (.slice D x.2.2.2.2.2.2.2.1.length H) := by rw [cell_of_row wr G _ f _ (0, 0) a]; exact b 7 (by decide)
   have q8 : wr.cell? ⟨G, j * 9 + 8, none⟩ = some (.int .i64 x.2.2.2.2.2.2.2.2) := by rw [cell_of_row wr G _ f _ (0, 0) a]; exact b 8 (by decide)
   have r0 : wr.frozen? ⟨G, j * 9, none⟩ = false := frozen_of_row wr G _ _ _ a;have r1 : wr.frozen? ⟨G, j * 9 + 1, none⟩ = false := frozen_of_row wr G _ _ _ a;have r2 : wr.frozen? ⟨G, j * 9 + 2, none⟩ = false := frozen_of_row wr G _ _ _ a;have r3 : wr.frozen? ⟨G, j * 9 + 3, none⟩ = false := frozen_of_row wr G _ _ _ a;have r4 : wr.frozen? ⟨G, j * 9 + 4, none⟩ = false := frozen_of_row wr G _ _ _ a;have r5 : wr.frozen? ⟨G, j * 9 + 5, none⟩ = false := frozen_of_row wr G _ _ _ a;have r6 : wr.frozen? ⟨G, j * 9 + 6, none⟩ = false := frozen_of_row wr G _ _ _ a;have r8 : wr.frozen? ⟨G, j * 9 + 8, none⟩ = false := frozen_of_row wr G _ _ _ a;have L : j * 9 + 8 < f.size := by
    have := b 8 (by decide);exact (Array.getElem?_eq_some_iff.1 (this.trans rfl)).1
   clear N X;generalize Z : k + (zAt zFX (xs.take j) : Int) = kk at A ⊢;have TA : 0 ≤ kk ∧ kk ≤ 576460752303423488 := by omega
   have J : G < wr.heap.size := (ltH a);have y0 := a;have y1 := heap_setCell_same _ G (j * 9) _ _ (.int .i64 (kk)) y0;have y2 := heap_setCell_same _ G (j * 9 + 1) _ _ (.int .i64 (kk + 1)) y1;have y3 := heap_setCell_same _ G (j * 9 + 2) _ _ (.int .i64 (kk + 1 + 1)) y2;have y4 := heap_setCell_same _ G (j * 9 + 3) _ _ (.int .i64 (kk + 1 + 1 + 1)) y3;have y5 := heap_setCell_same _ G (j * 9 + 4) _ _ (.int .i64 (kk + 1 + 1 + 1 + 1)) y4;have y6 := heap_setCell_same _ G (j * 9 + 5) _ _ (.int .i64 (kk + 1 + 1 + 1 + 1 + 1)) y5;have y7 := heap_setCell_same _ G (j * 9 + 6) _ _ (.int .i64 (kk + 1 + 1 + 1 + 1 + 1 + 1)) y6
   have cA : Hid (∀ d : World, d.heap[G]? = some (.cells (((((((f.setIfInBounds (j * 9) (.int .i64 (kk))).setIfInBounds (j * 9 + 1) (.int .i64 (kk + 1))).setIfInBounds (j * 9 + 2) (.int .i64 (kk + 1 + 1))).setIfInBounds (j * 9 + 3) (.int .i64 (kk + 1 + 1 + 1))).setIfInBounds (j * 9 + 4) (.int .i64 (kk + 1 + 1 + 1 + 1))).setIfInBounds (j * 9 + 5) (.int .i64 (kk + 1 + 1 + 1 + 1 + 1))).setIfInBounds (j * 9 + 6) (.int .i64 (kk + 1 + 1 + 1 + 1 + 1 + 1))) 123 (0, 0)) → ∃ t, d.cell? ⟨G, j * 9 + 8, none⟩ = some t) := fun d hb => ⟨.int .i64 x.2.2.2.2.2.2.2.2, by
    rw [cell_of_row d G _ _ _ (0, 0) hb, Array.getElem?_setIfInBounds_ne (by omega), Array.getElem?_setIfInBounds_ne (by omega), Array.getElem?_setIfInBounds_ne (by omega), Array.getElem?_setIfInBounds_ne (by omega), Array.getElem?_setIfInBounds_ne (by omega), Array.getElem?_setIfInBounds_ne (by omega), Array.getElem?_setIfInBounds_ne (by omega)]
    exact b 8 (by decide)⟩
   have U : Hid (∀ d, Chg Sj (((((((wr.setCell ⟨G, j * 9, none⟩ (.int .i64 (kk))).setCell ⟨G, j * 9 + 1, none⟩ (.int .i64 (kk + 1))).setCell ⟨G, j * 9 + 2, none⟩ (.int .i64 (kk + 1 + 1))).setCell ⟨G, j * 9 + 3, none⟩ (.int .i64 (kk + 1 + 1 + 1))).setCell ⟨G, j * 9 + 4, none⟩ (.int .i64 (kk + 1 + 1 + 1 + 1))).setCell ⟨G, j * 9 + 5, none⟩ (.int .i64 (kk + 1 + 1 + 1 + 1 + 1))).setCell ⟨G, j * 9 + 6, none⟩ (.int .i64 (kk + 1 + 1 + 1 + 1 + 1 + 1))) d → d.heap[G]? = some (.cells (((((((f.setIfInBounds (j * 9) (.int .i64 (kk))).setIfInBounds (j * 9 + 1) (.int .i64 (kk + 1))).setIfInBounds (j * 9 + 2) (.int .i64 (kk + 1 + 1))).setIfInBounds (j * 9 + 3) (.int .i64 (kk + 1 + 1 + 1))).setIfInBounds (j * 9 + 4) (.int .i64 (kk + 1 + 1 + 1 + 1))).setIfInBounds (j * 9 + 5) (.int .i64 (kk + 1 + 1 + 1 + 1 + 1))).setIfInBounds (j * 9 + 6) (.int .i64 (kk + 1 + 1 + 1 + 1 + 1 + 1))) 123 (0, 0))) := fun d F => (F.block G (by simpa using J) n).trans y7;have HC : Hid (∀ d, Chg Sj (((((((wr.setCell ⟨G, j * 9, none⟩ (.int .i64 (kk))).setCell ⟨G, j * 9 + 1, none⟩ (.int .i64 (kk + 1))).setCell ⟨G, j * 9 + 2, none⟩ (.int .i64 (kk + 1 + 1))).setCell ⟨G, j * 9 + 3, none⟩ (.int .i64 (kk + 1 + 1 + 1))).setCell ⟨G, j * 9 + 4, none⟩ (.int .i64 (kk + 1 + 1 + 1 + 1))).setCell ⟨G, j * 9 + 5, none⟩ (.int .i64 (kk + 1 + 1 + 1 + 1 + 1))).setCell ⟨G, j * 9 + 6, none⟩ (.int .i64 (kk + 1 + 1 + 1 + 1 + 1 + 1))) d → zA0.own d Sj [.slice D x.2.2.2.2.2.2.2.1.length H] (zAT zBa (kk + 1 + 1 + 1 + 1 + 1 + 1 + 1) x.2.2.2.2.2.2.2.1) → fevsR.own (d.setCell ⟨G, j * 9 + 8, none⟩ (.int .i64 (kk + 1 + 1 + 1 + 1 + 1 + 1 + 1 + (zAt zBa x.2.2.2.2.2.2.2.1 : Int)))) S [.slice (some ⟨G, 0, none⟩) xs.length C] (zCP zFX k xs (j + 1)) ∧ Chg S wr (d.setCell ⟨G, j * 9 + 8, none⟩ (.int .i64 (kk + 1 + 1 + 1 + 1 + 1 + 1 + 1 + (zAt zBa x.2.2.2.2.2.2.2.1 : Int))))) := by
    intro d F eA;have z0 := U.out d F;have z1 := heap_setCell_same _ G (j * 9 + 8) _ _ (.int .i64 (kk + 1 + 1 + 1 + 1 + 1 + 1 + 1 + (zAt zBa x.2.2.2.2.2.2.2.1 : Int))) z0;have c1 : Chg S wr (((((((wr.setCell ⟨G, j * 9, none⟩ (.int .i64 (kk))).setCell ⟨G, j * 9 + 1, none⟩ (.int .i64 (kk + 1))).setCell ⟨G, j * 9 + 2, none⟩ (.int .i64 (kk + 1 + 1))).setCell ⟨G, j * 9 + 3, none⟩ (.int .i64 (kk + 1 + 1 + 1))).setCell ⟨G, j * 9 + 4, none⟩ (.int .i64 (kk + 1 + 1 + 1 + 1))).setCell ⟨G, j * 9 + 5, none⟩ (.int .i64 (kk + 1 + 1 + 1 + 1 + 1))).setCell ⟨G, j * 9 + 6, none⟩ (.int .i64 (kk + 1 + 1 + 1 + 1 + 1 + 1))) := zCq (zCq (zCq (zCq (zCq (zCq (zCq (Chg.refl S wr) l) l) l) l) l) l) l;have c2 := c1.trans (F.mono Y);have c3 : Chg S d (d.setCell ⟨G, j * 9 + 8, none⟩ (.int .i64 (kk + 1 + 1 + 1 + 1 + 1 + 1 + 1 + (zAt zBa x.2.2.2.2.2.2.2.1 : Int)))) := zCq (Chg.refl S d) l;refine ⟨?_, c2.trans c3⟩;rw [← A.out];have p : zA0.own (d.setCell ⟨G, j * 9 + 8, none⟩ (.int .i64 (kk + 1 + 1 + 1 + 1 + 1 + 1 + 1 + (zAt zBa x.2.2.2.2.2.2.2.1 : Int)))) Sj [.slice D x.2.2.2.2.2.2.2.1.length H] (zAT zBa (kk + 1 + 1 + 1 + 1 + 1 + 1 + 1) x.2.2.2.2.2.2.2.1) := zAc (eA) n;refine o (d.setCell ⟨G, j * 9 + 8, none⟩ (.int .i64 (kk + 1 + 1 + 1 + 1 + 1 + 1 + 1 + (zAt zBa x.2.2.2.2.2.2.2.1 : Int)))) _ [.int .i64 (kk), .int .i64 (kk + 1), .int .i64 (kk + 1 + 1), .int .i64 (kk + 1 + 1 + 1), .int .i64 (kk + 1 + 1 + 1 + 1), .int .i64 (kk + 1 + 1 + 1 + 1 + 1), .int .i64 (kk + 1 + 1 + 1 + 1 + 1 + 1), .slice D x.2.2.2.2.2.2.2.1.length H, .int .i64 (kk + 1 + 1 + 1 + 1 + 1 + 1 + 1 + (zAt zBa x.2.2.2.2.2.2.2.1 : Int))] _ Sj S z1 (by simp) ?_ ?_ ?_ (zNO (zD6 (by omega) (by omega)) (zD6 (by omega) (by omega)) (zD6 (by omega) (by omega)) (zD6 (by omega) (by omega)) (zD6 (by omega) (by omega)) (zD6 (by omega) (by omega)) (zD6 (by omega) (by omega)) (zD6 (by omega) (by omega)) p) s3 n l Y s2
    ·intro i B;rw [show fevR.size = 9 from rfl] at B;rw [Array.getElem?_setIfInBounds_ne (by omega), Array.getElem?_setIfInBounds_ne (by omega), Array.getElem?_setIfInBounds_ne (by omega), Array.getElem?_setIfInBounds_ne (by omega), Array.getElem?_setIfInBounds_ne (by omega), Array.getElem?_setIfInBounds_ne (by omega), Array.getElem?_setIfInBounds_ne (by omega), Array.getElem?_setIfInBounds_ne (by omega)]
    ·intro i B;rw [show fevR.size = 9 from rfl] at B;rw [show j * fevR.size = j * 9 from rfl];have h3 : i = 0 ∨ i = 1 ∨ i = 2 ∨ i = 3 ∨ i = 4 ∨ i = 5 ∨ i = 6 ∨ i = 7 ∨ i = 8 := by omega
     rcases h3 with rfl | rfl | rfl | rfl | rfl | rfl | rfl | rfl | rfl
     ·rw [Array.getElem?_setIfInBounds_ne (by omega), Array.getElem?_setIfInBounds_ne (by omega), Array.getElem?_setIfInBounds_ne (by omega), Array.getElem?_setIfInBounds_ne (by omega), Array.getElem?_setIfInBounds_ne (by omega), Array.getElem?_setIfInBounds_ne (by omega), Array.getElem?_setIfInBounds_ne (by omega)];rw [Nat.add_zero];rw [Array.getElem?_setIfInBounds_self_of_lt (by first | omega | (simp; omega))];rfl
     ·rw [Array.getElem?_setIfInBounds_ne (by omega), Array.getElem?_setIfInBounds_ne (by omega), Array.getElem?_setIfInBounds_ne (by omega), Array.getElem?_setIfInBounds_ne (by omega), Array.getElem?_setIfInBounds_ne (by omega), Array.getElem?_setIfInBounds_ne (by omega)];skip
      rw [Array.getElem?_setIfInBounds_self_of_lt (by first | omega | (simp; omega))];rfl
     ·rw [Array.getElem?_setIfInBounds_ne (by omega), Array.getElem?_setIfInBounds_ne (by omega), Array.getElem?_setIfInBounds_ne (by omega), Array.getElem?_setIfInBounds_ne (by omega), Array.getElem?_setIfInBounds_ne (by omega)];skip
      rw [Array.getElem?_setIfInBounds_self_of_lt (by first | omega | (simp; omega))];rfl
     ·rw [Array.getElem?_setIfInBounds_ne (by omega), Array.getElem?_setIfInBounds_ne (by omega), Array.getElem?_setIfInBounds_ne (by omega), Array.getElem?_setIfInBounds_ne (by omega)];skip
      rw [Array.getElem?_setIfInBounds_self_of_lt (by first | omega | (simp; omega))];rfl
     ·rw [Array.getElem?_setIfInBounds_ne (by omega), Array.getElem?_setIfInBounds_ne (by omega), Array.getElem?_setIfInBounds_ne (by omega)];skip
      rw [Array.getElem?_setIfInBounds_self_of_lt (by first | omega | (simp; omega))];rfl
     ·rw [Array.getElem?_setIfInBounds_ne (by omega), Array.getElem?_setIfInBounds_ne (by omega)];skip
      rw [Array.getElem?_setIfInBounds_self_of_lt (by first | omega | (simp; omega))];rfl
     ·rw [Array.getElem?_setIfInBounds_ne (by omega)];skip
      rw [Array.getElem?_setIfInBounds_self_of_lt (by first | omega | (simp; omega))];rfl
     ·rw [Array.getElem?_setIfInBounds_ne (by omega), Array.getElem?_setIfInBounds_ne (by omega), Array.getElem?_setIfInBounds_ne (by omega), Array.getElem?_setIfInBounds_ne (by omega), Array.getElem?_setIfInBounds_ne (by omega), Array.getElem?_setIfInBounds_ne (by omega), Array.getElem?_setIfInBounds_ne (by omega), Array.getElem?_setIfInBounds_ne (by omega)];exact b 7 (by decide)
     ·skip
      skip
      rw [Array.getElem?_setIfInBounds_self_of_lt (by first | omega | (simp; omega))];rfl
    ·intro i B O;have m : i ≠ G := fun e => s5 (by rw [← e]; exact B);rw [heap_setCell_other _ ⟨G, j * 9 + 8, none⟩ i _ m, F.block i (by simpa using O) (fun y => s3 i y B), heap_setCell_other _ ⟨G, j * 9 + 6, none⟩ i _ m, heap_setCell_other _ ⟨G, j * 9 + 5, none⟩ i _ m, heap_setCell_other _ ⟨G, j * 9 + 4, none⟩ i _ m, heap_setCell_other _ ⟨G, j * 9 + 3, none⟩ i _ m, heap_setCell_other _ ⟨G, j * 9 + 2, none⟩ i _ m, heap_setCell_other _ ⟨G, j * 9 + 1, none⟩ i _ m, heap_setCell_other _ ⟨G, j * 9, none⟩ i _ m]
   have HO : Hid (zA0.own (((((((wr.setCell ⟨G, j * 9, none⟩ (.int .i64 (kk))).setCell ⟨G, j * 9 + 1, none⟩ (.int .i64 (kk + 1))).setCell ⟨G, j * 9 + 2, none⟩ (.int .i64 (kk + 1 + 1))).setCell ⟨G, j * 9 + 3, none⟩ (.int .i64 (kk + 1 + 1 + 1))).setCell ⟨G, j * 9 + 4, none⟩ (.int .i64 (kk + 1 + 1 + 1 + 1))).setCell ⟨G, j * 9 + 5, none⟩ (.int .i64 (kk + 1 + 1 + 1 + 1 + 1))).setCell ⟨G, j * 9 + 6, none⟩ (.int .i64 (kk + 1 + 1 + 1 + 1 + 1 + 1))) Sj [.slice D x.2.2.2.2.2.2.2.1.length H] x.2.2.2.2.2.2.2.1) := zAc (zAc (zAc (zAc (zAc (zAc (zAc (z) n) n) n) n) n) n) n;clear y K s o b a Y s2 s3 n s5 A h z L J y0 y1 y2 y3 y4 y5 y6 y7;generalize zAt zFX (xs.take j) = TT at HT hT Z;go_wp2_with fail
   refine (zBJ Sj _ _ x.2.2.2.2.2.2.2.1 _ (by omega) (by omega) (by omega) HO.out).mono ?_;rintro e d ⟨rfl, r, V⟩;have R := U.out d V;obtain ⟨p, I⟩ := HC.out d V r;have E := hs.trans I;have HF : Hid _ := And.intro p E;clear r V I HC HO p E U q0 q1 q2 q3 q4 q5 q6 q7 q8 r0 r1 r2 r3 r4 r5 r6 r8;obtain ⟨t8, YA⟩ : ∃ t, d.cell? ⟨G, j * 9 + 8, none⟩ = some t := cA.out d R;have r8 : d.frozen? ⟨G, j * 9 + 8, none⟩ = false := frozen_of_row d G _ _ _ R;clear R;go_wp2;go_roundw
   case rel => exact ⟨j + 1, by omega, by go_num, by rw [HT.out]; congr 1; omega, HF.out.1, HF.out.2⟩
   case measure => simp [intOf]; omega
  ·have aA : j = xs.length := by omega
   subst aA;rw [List.take_length];rw [zCF] at K;go_wp2;go_ret
   exact ⟨rfl, K, hs⟩
theorem zMp : MkC 48 zC1 zBb zCk := by
 intro S cs x k w h a hm hb;obtain ⟨v, rfl⟩ := zDg h;have e : lot = 4398046511104 := rfl;have b : zBb.cV x = zAt zFX (x.map zFr) := flat_cnt x;have := zHn S v k (x.map zFr) w a (by omega) (by omega) ((zJq ev_own rfl).1 h);rw [b];refine this.mono fun e' w' ⟨q, r, c⟩ => ⟨q, (zJq ev_own rfl).2 ?_, c⟩;rw [show zBb.mV k x = zAT zBs k x from rfl, zJr];exact r
theorem zIa (a : Option Addr) (xs : List (List Int)) (cap : Nat) (left : Int) (w : World) (h : zA4 zA0 w a xs) (h0 : 0 ≤ left) (h1 : left ≤ 1048576) (hm : xs.length ≤ maxLen) :
    Calls Tryz.prog 58 #[.slice a xs.length cap, .int .i64 left] w fun e l => e = .returned (.int .i64 (szI ((slM zAs).bk xs) left)) ∧ l = w := by
 have F : xs.length ≤ 9223372036854775807 := hm;have f : (slM zAs).bk xs = xs.length + zA6 zAs xs := rfl;clear hm;by_cases hl : (xs.length : Int) ≤ left
 ·have y : ¬ (left - (xs.length : Int) < 0) := by omega
  have E : Hid _ := f;clear f;go_enter Tryz.func58, Tryz.ntmps58;go_wp2;go_loop [1, 5] (fun q i => ∃ k : Nat, k ≤ xs.length ∧ i = .int .i64 k ∧ (zA6 zAs (xs.take k) : Int) + xs.length ≤ left ∧ q = .int .i64 (left - (xs.length : Int) - zA6 zAs (xs.take k))) (fun _ i => xs.length - (intOf i).toNat)
  case atStart => exact ⟨0, Nat.zero_le _, rfl, by simp [zA6]; omega, by simp [zA6]⟩
  case round =>
   obtain ⟨k, hk, rfl, A, rfl⟩ := hrel;by_cases o : k < xs.length
   ·have C : (k : Int) < (xs.length : Int) := by omega
    obtain ⟨x, j⟩ : ∃ x, xs[k]? = some x := ⟨_, List.getElem?_eq_getElem o⟩;obtain ⟨b, I, c, rfl, ⟨aj, cj, rfl, v, n, g⟩, d⟩ := zAy h j;have H := d 0 _ rfl;rw [show k * (zA0).size + 0 = k from Nat.mul_one k] at H;have HR : Hid _ := g;have D : Hid _ := Nat.le_trans v n;have s : Hid _ := zCu (M := zAs) j;have p := zCm (M := zAs) j;clear h j d g;generalize zA6 zAs (xs.take k) = T at A s p ⊢;by_cases B : (((zAs).bk x : Nat) : Int) ≤ left - (xs.length : Int) - (T : Int)
    ·have G : ¬ (left - (xs.length : Int) - (T : Int) - (((zAs).bk x : Nat) : Int) < 0) := by omega
     have z : Hid (szI ((zAs).bk x) (left - (xs.length : Int) - (T : Int)) = _) := zAF B;go_wp2_with (go_at_call 106; refine (zBg _ x _ _ _ (by omega) (by omega) D.out).mono ?_; rintro e l ⟨rfl, rfl⟩; rw [z.out])
     go_round
     case rel => exact ⟨k + 1, by omega, by go_num, by have := s.out; omega, by rw [s.out]; go_num⟩
     case measure => simp [intOf]; omega
    ·have z : Hid (szI ((zAs).bk x) (left - (xs.length : Int) - (T : Int)) = _) := zAE B;have m : Hid (szI ((slM zAs).bk xs) left = -1) := by unfold Hid; rw [E.out]; exact zAE (by omega)
     go_wp2_with (go_at_call 106; refine (zBg _ x _ _ _ (by omega) (by omega) D.out).mono ?_; rintro e l ⟨rfl, rfl⟩; rw [z.out])
     go_ret
     exact ⟨zAx m.out.symm, rfl⟩
   ·have r : k = xs.length := by omega
    subst r;rw [List.take_length] at A ⊢;have m : Hid (szI ((slM zAs).bk xs) left = left - (xs.length : Int) - (zA6 zAs xs : Int)) := by unfold Hid; rw [E.out, zAF (by omega)]; omega
    go_wp2;go_ret
    exact ⟨zAx m.out.symm, rfl⟩
 ·have y : left - (xs.length : Int) < 0 := by omega
  rw [zAE (by omega)];clear f h;go_enter Tryz.func58, Tryz.ntmps58;go_wp2;go_ret
  exact ⟨rfl, rfl⟩
theorem Tryz.infoInt64SS : (Tryz.prog.info? 37).map (fun i => (i.zero, i.size, i.bytes)) = some (some (.slice none 0 0), 1, 24) := by kernel_rfl
theorem zIb (a : Option Addr) (xs : List (List Int)) (cap : Nat) (w : World) (h : zA4 zA0 w a xs) (hm : (slM zAs).bk xs ≤ 1048576) :
    Calls Tryz.prog 64 #[.slice a xs.length cap] w fun e w' => ∃ v, e = .returned v ∧ zAI (slR 37 zA0) w w' [v] xs := by
 have q : (slM zAs).bk xs = xs.length + zA6 zAs xs := rfl;have E : xs.length ≤ 1048576 := by omega
 have O : Hid (zA6 zAs xs ≤ 1048576) := by unfold Hid; omega
 clear q hm;have r := Go.run_make_row' (P := Tryz.prog) 24 37 (.slice none 0 0) 24 Tryz.underlying24 Tryz.infoInt64SS rfl .i64 .i64 xs.length (by omega) (by omega);go_enter Tryz.func64, Tryz.ntmps64;go_wp2;go_loopw [4] (fun i wr => ∃ k : Nat, k ≤ xs.length ∧ i = .int .i64 k ∧ zLa 37 zA0 w wr xs.length (xs.take k)) (fun i _ => xs.length - (intOf i).toNat)
 case atStart => exact ⟨0, Nat.zero_le _, rfl, by simpa using zBV (e := 37) (R := zA0) (w0 := w) (n := xs.length) (cs := madeCells #[.slice none 0 0] xs.length) (by unfold maxLen; omega) (by simp [size_madeCells]; exact (Nat.mul_one _).symm)⟩
 case round =>
  obtain ⟨k, hk, rfl, f⟩ := hrel;by_cases j : k < xs.length
  ·have y : (k : Int) < (xs.length : Int) := by omega
   obtain ⟨x, l⟩ : ∃ x, xs[k]? = some x := ⟨_, List.getElem?_eq_getElem j⟩;obtain ⟨b, N, c, rfl, ⟨aj, cj, rfl, G, B, g⟩, d⟩ := zAy (zAm h (zCx f)) l;have D := d 0 _ rfl;rw [show k * (zA0).size + 0 = k from Nat.mul_one k] at D;have C : Hid _ := g;have I : Hid ((zAs).bk x ≤ 1048576) := by unfold Hid; have := zCm (M := zAs) l; have := O.out; omega
   have F : Hid (∀ w1 v, zAI zA0 wr w1 [v] x → _) := fun w1 v hm => zCt (w1 := w1) (c := [v]) f (by simp; omega) j hm;have H : Hid (xs.take k ++ [x] = xs.take (k + 1)) := by unfold Hid; rw [List.take_add_one, l]; rfl
   clear h l g d r f;go_wp2_with (go_at_call 112; refine (zCn _ x _ _ C.out I.out).mono ?_; rintro e w1 ⟨v, rfl, o⟩; obtain ⟨av, cv, rfl⟩ := zBx o.1; obtain ⟨z, A, p⟩ := F.out _ _ o; obtain ⟨v0, s⟩ := z 0 (Nat.zero_lt_one); have K := A k; rw [show k * (zA0).size + 0 = k from Nat.mul_one k] at s; rw [show k * (zA0).size = k from Nat.mul_one k, H.out] at p; have J : Hid _ := p; clear p o z A)
   go_roundw
   case rel => exact ⟨k + 1, by omega, by go_num, J.out⟩
   case measure => simp [intOf]; omega
  ·have m : k = xs.length := by omega
   subst m;rw [List.take_length] at f;have L := zCD f rfl;clear f;go_wp2;go_ret
   exact ⟨_, rfl, L⟩
theorem zIc (a1 a2 : Option Addr) (xs : List (List Int)) (c1 A : Nat) (w : World) (h1 : zA4 zA0 w a1 xs) (h2 : zA4 zA0 w a2 xs) (hm : (slM zAs).bk xs ≤ 1152921504606846976) :
    Calls Tryz.prog 78 #[.slice a1 xs.length c1, .slice a2 xs.length A] w fun e w' => e = .returned (.bool true) ∧ ∃ n, w' = w.drewN n := by
 have r : (slM zAs).bk xs = xs.length + zA6 zAs xs := rfl;have G : xs.length ≤ 1152921504606846976 := by omega
 have R : Hid (zA6 zAs xs ≤ 1152921504606846976) := by unfold Hid; omega
 clear r hm;go_enter Tryz.func78, Tryz.ntmps78;go_wp2;go_loopw [5] (fun i wr => ∃ k : Nat, k ≤ xs.length ∧ i = .int .i64 k ∧ ∃ n, wr = w.drewN n) (fun i _ => xs.length - (intOf i).toNat)
 case atStart => exact ⟨0, Nat.zero_le _, rfl, 0, rfl⟩
 case round =>
  obtain ⟨k, hk, rfl, n, m⟩ := hrel;by_cases p : k < xs.length
  ·have z : (k : Int) < (xs.length : Int) := by omega
   obtain ⟨x, l⟩ : ∃ x, xs[k]? = some x := ⟨_, List.getElem?_eq_getElem p⟩;have s : ∀ j, j < w.heap.size → wr.heap[j]? = w.heap[j]? := by rw [m]; exact fun _ _ => rfl
   obtain ⟨b, N, c, rfl, ⟨L, cj, rfl, I, B, g⟩, d⟩ := zAy (zAq h1 s) l;obtain ⟨b2, y, A, rfl, ⟨o, D, rfl, K, H, f⟩, a⟩ := zAy (zAq h2 s) l;have F := d 0 _ rfl;have C := a 0 _ rfl;rw [show k * (zA0).size + 0 = k from Nat.mul_one k] at F C;have E : Hid (∀ q, zA4 _ (wr.drewN q) L x) := fun q => zAq g (fun _ _ => rfl);have v : Hid (∀ q, zA4 _ (wr.drewN q) o x) := fun q => zAq f (fun _ _ => rfl);have J : Hid ((zAs).bk x ≤ 1152921504606846976) := by unfold Hid; have := zCm (M := zAs) l; have := R.out; omega
   have O : Hid (wr = w.drewN n) := m;clear h1 h2 l g f d a m s;go_wp2_with fail
   go_quiet (first | (go_at_call 11; exact Calls.quiet_of (zCo _ _ x _ _ _ (E.out _) (v.out _) J.out)))
   go_wp2;go_roundw
   case rel => exact ⟨k + 1, by omega, by go_num, n + nq, by rw [O.out, World.drewN_drewN]⟩
   case measure => simp [intOf]; omega
  ·go_wp2;go_ret
   first | exact ⟨rfl, _, rfl⟩ | exact ⟨rfl, _, m⟩
theorem zGB (k : Int) (w : World) :
    Calls Tryz.prog 84 #[.slice none 0 0, .int .i64 k] w fun e' w' => e' = .returned (.int .i64 k) ∧ w' = w := by
 go_enter Tryz.func84, Tryz.ntmps84;go_wp2;refine wp_loop_rounds 1 ?_;rw [rounds_succ];go_wp2;go_ret
 exact ⟨rfl, rfl⟩
theorem zGC (S : zBo) (v : Value) (k : Int) (xs : List (List Int)) (w : World) (h0 : 0 ≤ k) (h1 : k ≤ 576460752303423488) (hm : zAt zAs xs ≤ 576460752303423488) (hln : xs.length ≤ 576460752303423488) (h : (slR 37 zA0).own w S [v] xs) :
    Calls Tryz.prog 84 #[v, .int .i64 k] w fun e' b => e' = .returned (.int .i64 (k + zAt zAs xs)) ∧ (slR 37 zA0).own b S [v] (zAT zAs k xs) ∧ Chg S w b := by
 rcases zCg h with ⟨rfl, rfl⟩ | ⟨G, o, rfl, hG⟩
 ·exact (zGB k w).mono fun e b ⟨e1, e2⟩ => ⟨by simpa [zAt] using e1, by rw [e2]; exact h, by rw [e2]; exact Chg.refl _ _⟩
 go_enter Tryz.func84, Tryz.ntmps84;go_wp2;go_loopw [1, 5] (fun q i wr => ∃ j : Nat, j ≤ xs.length ∧ i = .int .i64 j ∧ q = .int .i64 (k + zAt zAs (xs.take j)) ∧ (slR 37 zA0).own wr S [.slice (some ⟨G, 0, none⟩) xs.length o] (zCP zAs k xs j) ∧ Chg S w wr)
  (fun _ i _ => xs.length - (intOf i).toNat)
 case atStart => exact ⟨0, Nat.zero_le _, rfl, by simp [zAt], by rw [zCv]; exact h, Chg.refl _ _⟩
 case round =>
  obtain ⟨j, hj, rfl, rfl, y, Y⟩ := hrel;by_cases z : j < xs.length
  ·have V : (j : Int) < (xs.length : Int) := by omega
   obtain ⟨x, p⟩ : ∃ x, xs[j]? = some x := ⟨_, List.getElem?_eq_getElem z⟩;have X : Hid (zAt zAs (xs.take (j + 1)) = zAt zAs (xs.take j) + zAt zBa x) := zCf (M := zAs) p;have hT : zAt zAs (xs.take j) + zAt zBa x ≤ zAt zAs xs := zCE (M := zAs) p;have r : Hid _ := zCw (M := zAs) (k := k) p;obtain ⟨g, aA, s, Sj, T, c, Z, I, a, d, n, f, A, s2, L, O, s5, l⟩ := zCl y (zCW p);obtain ⟨vj, rfl⟩ : ∃ vj, c = [vj] := List.length_eq_one_iff.1 n;obtain ⟨B, N, rfl⟩ := zBx f;simp only [Value.slice.injEq, Option.some.injEq, Addr.mk.injEq, and_true] at Z;obtain ⟨rfl, E⟩ := Z;clear E n;have q1 : wr.cell? ⟨G, j, none⟩ = some (.slice B x.length N) := by
    rw [cell_of_row wr G j s _ (0, 0) a];have := d 0 Nat.zero_lt_one;rwa [show j * (zA0).size + 0 = j from Nat.mul_one j] at this
   have HO : Hid _ := f;have HC : Hid (∀ b, Chg Sj wr b → (zA0).own b Sj [.slice B x.length N] (zAT zBa (k + zAt zAs (xs.take j)) x) → (slR 37 zA0).own b S [.slice (some ⟨G, 0, none⟩) xs.length o] (zCP zAs k xs (j + 1))) := by
    intro b U D;rw [← r.out];have C : G < wr.heap.size := (ltH a);exact l b s [.slice B x.length N] _ Sj S (by rw [U.block G C O]; exact a) rfl (fun _ _ => rfl) d (U.keeps L.symm) D L O I A s2
   have F : Hid _ := A;clear p y f l d a s2 L O s5 A r h;generalize zAt zAs (xs.take j) = T at X hT HC ⊢;go_wp2_with (go_at_call 14; refine (zBJ Sj _ _ x _ (by omega) (by omega) (by omega) HO.out).mono ?_; rintro e b ⟨rfl, m, R⟩)
   have K := HC.out b R m;have H := Y.trans (R.mono F.out);clear m R;go_roundw
   case rel => exact ⟨j + 1, by omega, by go_num, by rw [X.out]; go_num, K, H⟩
   case measure => simp [intOf]; omega
  ·have J : j = xs.length := by omega
   subst J;rw [List.take_length];rw [zCF] at y;go_wp2;go_ret
   exact ⟨rfl, y, Y⟩
end Go.Proofs.YtcocbafhcpdheaaGreatDoor
