import Derived.Test.YtoihjejenjcokaaGreatDoorP00Box
import Derived.Test.YtoihjejenjcokaaGreatDoorP19LetterOk
namespace Go.Proofs.YtoihjejenjcokaaGreatDoor
set_option maxHeartbeats 8000000
set_option maxRecDepth 20000
open Go.ChangeShapes Go.WideShapes Go.ChangeAt Go.RowKit
set_option linter.unusedVariables false
abbrev zAE := zAu × List OpD × Int × Int × zAU × List Int
abbrev zAn : Rep zAE := zBP zAB (zBP zBX (zBP zBC (zBP zBC (zBP zAS zA5))))
abbrev zEe : Mk zAE := zDH zBb (zDH zDl (zDH zBx (zDH zBx (zDH zBE zBn))))
theorem zGp {l : List Value} (h : l.length = 1) : ∃ a0, l = [a0] := by
 match l, h with
 | [a0], _ => exact ⟨a0, rfl⟩
theorem zLk {l : List Value} (h : l.length = 2) : ∃ a0 a1, l = [a0, a1] := by
 match l, h with
 | [a0, a1], _ => exact ⟨a0, a1, rfl⟩
theorem zLl {l : List Value} (h : l.length = 3) : ∃ a0 a1 a2, l = [a0, a1, a2] := by
 match l, h with
 | [a0, a1, a2], _ => exact ⟨a0, a1, a2, rfl⟩
theorem zCs {w : World} {cs : List Value} {x : zAE} (h : zAn.rd w cs x) : ∃ v0 v1 v2 v5 v6 v7 v8, cs = [v0, v1, v2, .int .i64 x.2.2.1, .int .i64 x.2.2.2.1, v5, v6, v7, v8] ∧ zAB.rd w [v0, v1] x.1 ∧ zBX.rd w [v2] x.2.1 ∧ zBk x.2.2.1 ∧ zBk x.2.2.2.1 ∧ zAS.rd w [v5, v6, v7] x.2.2.2.2.1 ∧ zA5.rd w [v8] x.2.2.2.2.2 := by
 obtain ⟨c0, e0, rfl, h0, ⟨c1, e1, rfl, h1, ⟨c2, e2, rfl, ⟨rfl, i2⟩, ⟨c3, e3, rfl, ⟨rfl, i3⟩, ⟨c4, e4, rfl, h4, h5⟩⟩⟩⟩⟩ := h
 obtain ⟨v0, v1, rfl⟩ := zLk (zAB.rd_len h0)
 obtain ⟨v2, rfl⟩ := zGp (zBX.rd_len h1)
 obtain ⟨v5, v6, v7, rfl⟩ := zLl (zAS.rd_len h4)
 obtain ⟨v8, rfl⟩ := zGp (zA5.rd_len h5)
 exact ⟨v0, v1, v2, v5, v6, v7, v8, rfl, h0, h1, i2, i3, h4, h5⟩
theorem zAc {w : World} {g : Nat} {x0 x1 x2 x3 x4 x5 x6 x7 x8 : Value} {t : TypeId} (h : w.heap[g]? = some (.cells #[x0, x1, x2, x3, x4, x5, x6, x7, x8] t (0, 0))) : w.cell? ⟨g, 0, none⟩ = some x0 ∧ w.cell? ⟨g, 1, none⟩ = some x1 ∧ w.cell? ⟨g, 2, none⟩ = some x2 ∧ w.cell? ⟨g, 3, none⟩ = some x3 ∧ w.cell? ⟨g, 4, none⟩ = some x4 ∧ w.cell? ⟨g, 5, none⟩ = some x5 ∧ w.cell? ⟨g, 6, none⟩ = some x6 ∧ w.cell? ⟨g, 7, none⟩ = some x7 ∧ w.cell? ⟨g, 8, none⟩ = some x8 :=
 ⟨by rw [cell_of_row w g 0 _ t (0, 0) h]; rfl, by rw [cell_of_row w g 1 _ t (0, 0) h]; rfl, by rw [cell_of_row w g 2 _ t (0, 0) h]; rfl, by rw [cell_of_row w g 3 _ t (0, 0) h]; rfl, by rw [cell_of_row w g 4 _ t (0, 0) h]; rfl, by rw [cell_of_row w g 5 _ t (0, 0) h]; rfl, by rw [cell_of_row w g 6 _ t (0, 0) h]; rfl, by rw [cell_of_row w g 7 _ t (0, 0) h]; rfl, by rw [cell_of_row w g 8 _ t (0, 0) h]; rfl⟩
theorem szCore_u : SzC 4 zAn zEe zAM := by
 intro cs x left w h h0 h1
 obtain ⟨v0, v1, v2, v5, v6, v7, v8, rfl, r0, r1, -, -, r4, r5⟩ := zCs h
 clear h
 rw [show zEe.bk x = zBb.bk x.1 + (zDl.bk x.2.1 + (0 + (0 + (zBE.bk x.2.2.2.2.1 + zBn.bk x.2.2.2.2.2)))) from rfl]
 change Calls Tryz.prog 4 #[.agg #[v0, v1, v2, .int .i64 x.2.2.1, .int .i64 x.2.2.2.1, v5, v6, v7, v8], .int .i64 left] w _
 have C0 : Hid (∀ L W, Below w.heap.size w W → 0 ≤ L → L ≤ 1048576 → Calls Tryz.prog 18 #[.agg #[v0, v1], .int .i64 L] W fun e w' => e = .returned (.int .i64 (szI (zBb.bk x.1) L)) ∧ Below W.heap.size W w') := fun L W hb a b => zNh [v0, v1] _ L W (zAN r0 hb) a b
 have C1 : Hid (∀ L W, Below w.heap.size w W → 0 ≤ L → L ≤ 1048576 → Calls Tryz.prog 19 #[v2, .int .i64 L] W fun e w' => e = .returned (.int .i64 (szI (zDl.bk x.2.1) L)) ∧ Below W.heap.size W w') := fun L W hb a b => szOps_u [v2] _ L W (zAN r1 hb) a b
 have C4 : Hid (∀ L W, Below w.heap.size w W → 0 ≤ L → L ≤ 1048576 → Calls Tryz.prog 20 #[.agg #[v5, v6, v7], .int .i64 L] W fun e w' => e = .returned (.int .i64 (szI (zBE.bk x.2.2.2.2.1) L)) ∧ Below W.heap.size W w') := fun L W hb a b => szWay_u [v5, v6, v7] _ L W (zAN r4 hb) a b
 have C5 : Hid (∀ L W, Below w.heap.size w W → 0 ≤ L → L ≤ 1048576 → Calls Tryz.prog 21 #[v8, .int .i64 L] W fun e w' => e = .returned (.int .i64 (szI (zBn.bk x.2.2.2.2.2) L)) ∧ Below W.heap.size W w') := fun L W hb a b => szInts_u [v8] _ L W (zAN r5 hb) a b
 clear r0 r1 r4 r5
 generalize zBb.bk x.1 = n0 at C0 ⊢
 generalize zDl.bk x.2.1 = n1 at C1 ⊢
 generalize zBE.bk x.2.2.2.2.1 = n4 at C4 ⊢
 generalize zBn.bk x.2.2.2.2.2 = n5 at C5 ⊢
 go_enter Tryz.func4, Tryz.ntmps4
 go_wp2_with fail
 generalize hW0 : w.alloc _ = W0
 have X := boxH hW0
 have B := boxB hW0
 clear hW0
 refine (C0.out (left) _ B (by omega) (by omega)).mono ?_
 rintro e w1 ⟨rfl, bq⟩
 replace X := zAa bq X
 replace B := zAb B bq
 clear bq C0
 by_cases l0 : (n0 : Int) ≤ left
 ·rw [zC2 l0]
  have g0 : ¬ (left - (n0 : Int) < 0) := by omega
  obtain ⟨y0, y1, y2, y3, y4, y5, y6, y7, y8⟩ := zAc X
  go_wp2_with fail
  clear y0 y1 y2 y3 y4 y5 y6 y7 y8
  refine (C1.out (left - (n0 : Int)) _ B (by omega) (by omega)).mono ?_
  rintro e w2 ⟨rfl, bq⟩
  replace X := zAa bq X
  replace B := zAb B bq
  clear bq C1
  by_cases l1 : (n1 : Int) ≤ left - (n0 : Int)
  ·rw [zC2 l1]
   have g1 : ¬ (left - (n0 : Int) - (n1 : Int) < 0) := by omega
   obtain ⟨y0, y1, y2, y3, y4, y5, y6, y7, y8⟩ := zAc X
   go_wp2_with fail
   clear y0 y1 y2 y3 y4 y5 y6 y7 y8
   refine (C4.out (left - (n0 : Int) - (n1 : Int)) _ B (by omega) (by omega)).mono ?_
   rintro e w3 ⟨rfl, bq⟩
   replace X := zAa bq X
   replace B := zAb B bq
   clear bq C4
   by_cases l4 : (n4 : Int) ≤ left - (n0 : Int) - (n1 : Int)
   ·rw [zC2 l4]
    have g4 : ¬ (left - (n0 : Int) - (n1 : Int) - (n4 : Int) < 0) := by omega
    obtain ⟨y0, y1, y2, y3, y4, y5, y6, y7, y8⟩ := zAc X
    go_wp2_with fail
    clear y0 y1 y2 y3 y4 y5 y6 y7 y8
    refine (C5.out (left - (n0 : Int) - (n1 : Int) - (n4 : Int)) _ B (by omega) (by omega)).mono ?_
    rintro e w4 ⟨rfl, bq⟩
    replace X := zAa bq X
    replace B := zAb B bq
    clear bq C5
    by_cases l5 : (n5 : Int) ≤ left - (n0 : Int) - (n1 : Int) - (n4 : Int)
    ·rw [zC2 l5]
     have g5 : ¬ (left - (n0 : Int) - (n1 : Int) - (n4 : Int) - (n5 : Int) < 0) := by omega
     obtain ⟨y0, y1, y2, y3, y4, y5, y6, y7, y8⟩ := zAc X
     clear y0 y1 y2 y3 y4 y5 y6 y7 y8 X
     go_wp2
     go_ret
     exact ⟨zAW (by rw [zC2 (by omega)]; omega), B⟩
    ·rw [zCz l5]
     clear X
     go_wp2
     go_ret
     exact ⟨zAW (zCz (by omega)).symm, B⟩
   ·rw [zCz l4]
    clear X
    go_wp2
    go_ret
    exact ⟨zAW (zCz (by omega)).symm, B⟩
  ·rw [zCz l1]
   clear X
   go_wp2
   go_ret
   exact ⟨zAW (zCz (by omega)).symm, B⟩
 ·rw [zCz l0]
  clear X
  go_wp2
  go_ret
  exact ⟨zAW (zCz (by omega)).symm, B⟩
theorem eqCore_u : EqC 10 zAn zEe zAM := by
 intro cs ds x w h k hm
 obtain ⟨v0, v1, v2, v5, v6, v7, v8, rfl, r0, r1, -, -, r4, r5⟩ := zCs h
 obtain ⟨u0, u1, u2, u5, u6, u7, u8, rfl, s0, s1, -, -, s4, s5⟩ := zCs k
 clear h k
 rw [show zEe.bk x = zBb.bk x.1 + (zDl.bk x.2.1 + (0 + (0 + (zBE.bk x.2.2.2.2.1 + zBn.bk x.2.2.2.2.2)))) from rfl] at hm
 change Calls Tryz.prog 10 #[.agg #[v0, v1, v2, .int .i64 x.2.2.1, .int .i64 x.2.2.2.1, v5, v6, v7, v8], .agg #[u0, u1, u2, .int .i64 x.2.2.1, .int .i64 x.2.2.2.1, u5, u6, u7, u8]] w _
 have C0 : Hid (∀ W, Below w.heap.size w W → Calls Tryz.prog 37 #[.agg #[v0, v1], .agg #[u0, u1]] W fun e w' => e = .returned (.bool true) ∧ Below W.heap.size W w') := fun W hb => zNj [v0, v1] [u0, u1] _ W (zAN r0 hb) (zAN s0 hb) (by omega)
 have C1 : Hid (∀ W, Below w.heap.size w W → Calls Tryz.prog 38 #[v2, u2] W fun e w' => e = .returned (.bool true) ∧ Below W.heap.size W w') := fun W hb => eqOps_u [v2] [u2] _ W (zAN r1 hb) (zAN s1 hb) (by omega)
 have C4 : Hid (∀ W, Below w.heap.size w W → Calls Tryz.prog 39 #[.agg #[v5, v6, v7], .agg #[u5, u6, u7]] W fun e w' => e = .returned (.bool true) ∧ Below W.heap.size W w') := fun W hb => eqWay_u [v5, v6, v7] [u5, u6, u7] _ W (zAN r4 hb) (zAN s4 hb) (by omega)
 have C5 : Hid (∀ W, Below w.heap.size w W → Calls Tryz.prog 40 #[v8, u8] W fun e w' => e = .returned (.bool true) ∧ Below W.heap.size W w') := fun W hb => eqInts_u [v8] [u8] _ W (zAN r5 hb) (zAN s5 hb) (by omega)
 clear hm r0 s0 r1 s1 r4 s4 r5 s5
 have X := zAK (.cells #[u0, u1, u2, .int .i64 x.2.2.1, .int .i64 x.2.2.2.1, u5, u6, u7, u8] 41) (zAy w (.cells #[v0, v1, v2, .int .i64 x.2.2.1, .int .i64 x.2.2.2.1, v5, v6, v7, v8] 41))
 have Y := zAy (w.alloc (.cells #[v0, v1, v2, .int .i64 x.2.2.1, .int .i64 x.2.2.2.1, v5, v6, v7, v8] 41)) (.cells #[u0, u1, u2, .int .i64 x.2.2.1, .int .i64 x.2.2.2.1, u5, u6, u7, u8] 41)
 rw [zAp] at Y
 have B := zAb (zAf w (.cells #[v0, v1, v2, .int .i64 x.2.2.1, .int .i64 x.2.2.2.1, v5, v6, v7, v8] 41)) (zAf _ (.cells #[u0, u1, u2, .int .i64 x.2.2.1, .int .i64 x.2.2.2.1, u5, u6, u7, u8] 41))
 go_enter Tryz.func10, Tryz.ntmps10
 go_wp2_with fail
 generalize (w.alloc (.cells #[v0, v1, v2, .int .i64 x.2.2.1, .int .i64 x.2.2.2.1, v5, v6, v7, v8] 41)).alloc (.cells #[u0, u1, u2, .int .i64 x.2.2.1, .int .i64 x.2.2.2.1, u5, u6, u7, u8] 41) = W0 at X Y B ⊢
 refine (C0.out _ B).mono ?_
 rintro e w1 ⟨rfl, bq⟩
 replace X := zAa bq X
 replace Y := zAa bq Y
 replace B := zAb B bq
 clear bq C0
 obtain ⟨y0, y1, y2, y3, y4, y5, y6, y7, y8⟩ := zAc X
 obtain ⟨z0, z1, z2, z3, z4, z5, z6, z7, z8⟩ := zAc Y
 go_wp2_with fail
 clear y0 y1 y2 y3 y4 y5 y6 y7 y8 z0 z1 z2 z3 z4 z5 z6 z7 z8
 refine (C1.out _ B).mono ?_
 rintro e w2 ⟨rfl, bq⟩
 replace X := zAa bq X
 replace Y := zAa bq Y
 replace B := zAb B bq
 clear bq C1
 obtain ⟨y0, y1, y2, y3, y4, y5, y6, y7, y8⟩ := zAc X
 obtain ⟨z0, z1, z2, z3, z4, z5, z6, z7, z8⟩ := zAc Y
 go_wp2_with fail
 clear y0 y1 y2 y3 y4 y5 y6 y7 y8 z0 z1 z2 z3 z4 z5 z6 z7 z8
 refine (C4.out _ B).mono ?_
 rintro e w3 ⟨rfl, bq⟩
 replace X := zAa bq X
 replace Y := zAa bq Y
 replace B := zAb B bq
 clear bq C4
 obtain ⟨y0, y1, y2, y3, y4, y5, y6, y7, y8⟩ := zAc X
 obtain ⟨z0, z1, z2, z3, z4, z5, z6, z7, z8⟩ := zAc Y
 go_wp2_with fail
 clear y0 y1 y2 y3 y4 y5 y6 y7 y8 z0 z1 z2 z3 z4 z5 z6 z7 z8
 refine (C5.out _ B).mono ?_
 rintro e w4 ⟨rfl, bq⟩
 replace X := zAa bq X
 replace Y := zAa bq Y
 replace B := zAb B bq
 clear bq C5
 obtain ⟨y0, y1, y2, y3, y4, y5, y6, y7, y8⟩ := zAc X
 obtain ⟨z0, z1, z2, z3, z4, z5, z6, z7, z8⟩ := zAc Y
 clear X Y
 go_wp2
 go_ret
 exact ⟨rfl, B⟩
theorem zNm (x : zAE) : zEe.cV x = zBb.cV x.1 + (zDl.cV x.2.1 + (0 + (0 + (zBE.cV x.2.2.2.2.1 + zBn.cV x.2.2.2.2.2)))) := rfl
theorem zNn (k : Int) (x : zAE) : zEe.mV k x = (zBb.mV k x.1, zDl.mV (k + ((zBb.cV x.1 : Nat) : Int)) x.2.1, zBx.mV ((k + ((zBb.cV x.1 : Nat) : Int)) + ((zDl.cV x.2.1 : Nat) : Int)) x.2.2.1, zBx.mV (((k + ((zBb.cV x.1 : Nat) : Int)) + ((zDl.cV x.2.1 : Nat) : Int)) + ((zBx.cV x.2.2.1 : Nat) : Int)) x.2.2.2.1, zBE.mV ((((k + ((zBb.cV x.1 : Nat) : Int)) + ((zDl.cV x.2.1 : Nat) : Int)) + ((zBx.cV x.2.2.1 : Nat) : Int)) + ((zBx.cV x.2.2.2.1 : Nat) : Int)) x.2.2.2.2.1, zBn.mV (((((k + ((zBb.cV x.1 : Nat) : Int)) + ((zDl.cV x.2.1 : Nat) : Int)) + ((zBx.cV x.2.2.1 : Nat) : Int)) + ((zBx.cV x.2.2.2.1 : Nat) : Int)) + ((zBE.cV x.2.2.2.2.1 : Nat) : Int)) x.2.2.2.2.2) := rfl
theorem hdCore_u : HdC 16 zAn zEe zAM := by
 intro cs x k w h h0 hm hb
 rw [zNn] at h
 obtain ⟨v0, v1, v2, v5, v6, v7, v8, rfl, r0, r1, -, -, r4, r5⟩ := zCs h
 clear h
 simp only at r0 r1 r4 r5
 rw [zNm] at hm ⊢
 rw [show zEe.bk x = zBb.bk x.1 + (zDl.bk x.2.1 + (0 + (0 + (zBE.bk x.2.2.2.2.1 + zBn.bk x.2.2.2.2.2)))) from rfl] at hb
 have el : lot = 4398046511104 := rfl
 change Calls Tryz.prog 16 #[.agg #[v0, v1, v2, .int .i64 x.2.2.1, .int .i64 x.2.2.2.1, v5, v6, v7, v8], .int .i64 k] w _
 have C0 : Hid (∀ L W, L = k → Below w.heap.size w W → 0 ≤ L → L + (zBb.cV x.1 : Int) ≤ (lot : Int) → Calls Tryz.prog 45 #[.agg #[v0, v1], .int .i64 L] W fun e w' => e = .returned (.int .i64 (L + (zBb.cV x.1 : Int))) ∧ Below W.heap.size W w') := fun L W hL hq a b => by subst hL; exact zNl [v0, v1] _ _ W (zAN r0 hq) a b (by omega)
 have C1 : Hid (∀ L W, L = (k + ((zBb.cV x.1 : Nat) : Int)) → Below w.heap.size w W → 0 ≤ L → L + (zDl.cV x.2.1 : Int) ≤ (lot : Int) → Calls Tryz.prog 46 #[v2, .int .i64 L] W fun e w' => e = .returned (.int .i64 (L + (zDl.cV x.2.1 : Int))) ∧ Below W.heap.size W w') := fun L W hL hq a b => by subst hL; exact hdOps_u [v2] _ _ W (zAN r1 hq) a b (by omega)
 have C4 : Hid (∀ L W, L = ((((k + ((zBb.cV x.1 : Nat) : Int)) + ((zDl.cV x.2.1 : Nat) : Int)) + ((zBx.cV x.2.2.1 : Nat) : Int)) + ((zBx.cV x.2.2.2.1 : Nat) : Int)) → Below w.heap.size w W → 0 ≤ L → L + (zBE.cV x.2.2.2.2.1 : Int) ≤ (lot : Int) → Calls Tryz.prog 47 #[.agg #[v5, v6, v7], .int .i64 L] W fun e w' => e = .returned (.int .i64 (L + (zBE.cV x.2.2.2.2.1 : Int))) ∧ Below W.heap.size W w') := fun L W hL hq a b => by subst hL; exact hdWay_u [v5, v6, v7] _ _ W (zAN r4 hq) a b (by omega)
 have C5 : Hid (∀ L W, L = (((((k + ((zBb.cV x.1 : Nat) : Int)) + ((zDl.cV x.2.1 : Nat) : Int)) + ((zBx.cV x.2.2.1 : Nat) : Int)) + ((zBx.cV x.2.2.2.1 : Nat) : Int)) + ((zBE.cV x.2.2.2.2.1 : Nat) : Int)) → Below w.heap.size w W → 0 ≤ L → L + (zBn.cV x.2.2.2.2.2 : Int) ≤ (lot : Int) → Calls Tryz.prog 48 #[v8, .int .i64 L] W fun e w' => e = .returned (.int .i64 (L + (zBn.cV x.2.2.2.2.2 : Int))) ∧ Below W.heap.size W w') := fun L W hL hq a b => by subst hL; exact hdInts_u [v8] _ _ W (zAN r5 hq) a b (by omega)
 clear r0 r1 r4 r5
 have z2 : ((zBx.cV x.2.2.1 : Nat) : Int) = 0 := rfl
 have z3 : ((zBx.cV x.2.2.2.1 : Nat) : Int) = 0 := rfl
 generalize zBb.cV x.1 = n0 at C0 C1 C4 C5 hm ⊢
 generalize zDl.cV x.2.1 = n1 at C1 C4 C5 hm ⊢
 generalize zBE.cV x.2.2.2.2.1 = n4 at C4 C5 hm ⊢
 generalize zBn.cV x.2.2.2.2.2 = n5 at C5 hm ⊢
 go_enter Tryz.func16, Tryz.ntmps16
 go_wp2_with fail
 generalize hW0 : w.alloc _ = W0
 have X := boxH hW0
 have B := boxB hW0
 clear hW0
 refine (C0.out (k) _ (by omega) B (by omega) (by omega)).mono ?_
 rintro e w1 ⟨rfl, bq⟩
 replace X := zAa bq X
 replace B := zAb B bq
 clear bq C0
 have g0 : ¬ (k + (n0 : Int) < 0) := by omega
 obtain ⟨y0, y1, y2, y3, y4, y5, y6, y7, y8⟩ := zAc X
 go_wp2_with fail
 clear y0 y1 y2 y3 y4 y5 y6 y7 y8 g0
 refine (C1.out (k + (n0 : Int)) _ (by omega) B (by omega) (by omega)).mono ?_
 rintro e w2 ⟨rfl, bq⟩
 replace X := zAa bq X
 replace B := zAb B bq
 clear bq C1
 have g1 : ¬ (k + (n0 : Int) + (n1 : Int) < 0) := by omega
 obtain ⟨y0, y1, y2, y3, y4, y5, y6, y7, y8⟩ := zAc X
 go_wp2_with fail
 clear y0 y1 y2 y3 y4 y5 y6 y7 y8 g1
 refine (C4.out (k + (n0 : Int) + (n1 : Int)) _ (by omega) B (by omega) (by omega)).mono ?_
 rintro e w3 ⟨rfl, bq⟩
 replace X := zAa bq X
 replace B := zAb B bq
 clear bq C4
 have g4 : ¬ (k + (n0 : Int) + (n1 : Int) + (n4 : Int) < 0) := by omega
 obtain ⟨y0, y1, y2, y3, y4, y5, y6, y7, y8⟩ := zAc X
 go_wp2_with fail
 clear y0 y1 y2 y3 y4 y5 y6 y7 y8 g4
 refine (C5.out (k + (n0 : Int) + (n1 : Int) + (n4 : Int)) _ (by omega) B (by omega) (by omega)).mono ?_
 rintro e w4 ⟨rfl, bq⟩
 replace X := zAa bq X
 replace B := zAb B bq
 clear bq C5
 have g5 : ¬ (k + (n0 : Int) + (n1 : Int) + (n4 : Int) + (n5 : Int) < 0) := by omega
 obtain ⟨y0, y1, y2, y3, y4, y5, y6, y7, y8⟩ := zAc X
 clear y0 y1 y2 y3 y4 y5 y6 y7 y8 X
 go_wp2
 go_ret
 exact ⟨zAW (by omega), B⟩
theorem zBd {w : World} {S : zAX} {cs : List Value} {x : zAE} (h : zAn.own w S cs x) : ∃ v0 v1 v2 v5 v6 v7 v8 S0 S1 S4 S5, cs = [v0, v1, v2, .int .i64 x.2.2.1, .int .i64 x.2.2.2.1, v5, v6, v7, v8] ∧ zBk x.2.2.1 ∧ zBk x.2.2.2.1 ∧ zAB.own w S0 [v0, v1] x.1 ∧ zBX.own w S1 [v2] x.2.1 ∧ zAS.own w S4 [v5, v6, v7] x.2.2.2.2.1 ∧ zA5.own w S5 [v8] x.2.2.2.2.2 ∧ Sub S0 S ∧ Sub S1 S ∧ Sub S4 S ∧ Sub S5 S ∧ Dis S0 S1 ∧ Dis S0 S4 ∧ Dis S0 S5 ∧ Dis S1 S4 ∧ Dis S1 S5 ∧ Dis S4 S5 := by
 obtain ⟨c0, e0, S0, T1, rfl, h0, ⟨c1, e1, S1, T2, rfl, h1, ⟨c2, e2, S2, T3, rfl, ⟨rfl, i2⟩, ⟨c3, e3, S3, T4, rfl, ⟨rfl, i3⟩, ⟨c4, e4, S4, T5, rfl, h4, h5, a4, b4, d4⟩, a3, b3, d3⟩, a2, b2, d2⟩, a1, b1, d1⟩, a0, b0, d0⟩ := h
 obtain ⟨v0, v1, rfl⟩ := zLk (zAB.rd_len (zAB.own_rd h0))
 obtain ⟨v2, rfl⟩ := zGp (zBX.rd_len (zBX.own_rd h1))
 obtain ⟨v5, v6, v7, rfl⟩ := zLl (zAS.rd_len (zAS.own_rd h4))
 obtain ⟨v8, rfl⟩ := zGp (zA5.rd_len (zA5.own_rd h5))
 exact ⟨v0, v1, v2, v5, v6, v7, v8, S0, S1, S4, T5, rfl, i2, i3, h0, h1, h4, h5, a0, (a1).trans b0, ((((a4).trans b3).trans b2).trans b1).trans b0, (((((Sub.refl _).trans b4).trans b3).trans b2).trans b1).trans b0, d0.sub (Sub.refl _) (a1), d0.sub (Sub.refl _) ((((a4).trans b3).trans b2).trans b1), d0.sub (Sub.refl _) (((((Sub.refl _).trans b4).trans b3).trans b2).trans b1), d1.sub (Sub.refl _) (((a4).trans b3).trans b2), d1.sub (Sub.refl _) ((((Sub.refl _).trans b4).trans b3).trans b2), d4.sub (Sub.refl _) (Sub.refl _)⟩
theorem zCo {w : World} {S S0 S1 S4 S5 : zAX} {v0 v1 v2 v5 v6 v7 v8 : Value} {x : zAE} (i2 : zBk x.2.2.1) (i3 : zBk x.2.2.2.1) (h0 : zAB.own w S0 [v0, v1] x.1) (h1 : zBX.own w S1 [v2] x.2.1) (h4 : zAS.own w S4 [v5, v6, v7] x.2.2.2.2.1) (h5 : zA5.own w S5 [v8] x.2.2.2.2.2) (s0 : Sub S0 S) (s1 : Sub S1 S) (s4 : Sub S4 S) (s5 : Sub S5 S) (d01 : Dis S0 S1) (d04 : Dis S0 S4) (d05 : Dis S0 S5) (d14 : Dis S1 S4) (d15 : Dis S1 S5) (d45 : Dis S4 S5) : zAn.own w S [v0, v1, v2, .int .i64 x.2.2.1, .int .i64 x.2.2.2.1, v5, v6, v7, v8] x := by
 exact ⟨[v0, v1], [v2, .int .i64 x.2.2.1, .int .i64 x.2.2.2.1, v5, v6, v7, v8], S0, (fun q => S1 q ∨ (fun q => (fun _ => False) q ∨ (fun q => (fun _ => False) q ∨ (fun q => S4 q ∨ S5 q) q) q) q), rfl, h0, ⟨[v2], [.int .i64 x.2.2.1, .int .i64 x.2.2.2.1, v5, v6, v7, v8], S1, (fun q => (fun _ => False) q ∨ (fun q => (fun _ => False) q ∨ (fun q => S4 q ∨ S5 q) q) q), rfl, h1, ⟨[.int .i64 x.2.2.1], [.int .i64 x.2.2.2.1, v5, v6, v7, v8], (fun _ => False), (fun q => (fun _ => False) q ∨ (fun q => S4 q ∨ S5 q) q), rfl, ⟨rfl, i2⟩, ⟨[.int .i64 x.2.2.2.1], [v5, v6, v7, v8], (fun _ => False), (fun q => S4 q ∨ S5 q), rfl, ⟨rfl, i3⟩, ⟨[v5, v6, v7], [v8], S4, S5, rfl, h4, h5, (fun q h => .inl h), (fun q h => .inr h), (fun q a h => d45 q a h)⟩, (fun q h => .inl h), (fun q h => .inr h), (fun _ h _ => h.elim)⟩, (fun q h => .inl h), (fun q h => .inr h), (fun _ h _ => h.elim)⟩, (fun q h => .inl h), (fun q h => .inr h), (fun q a h => h.elim (fun ha => ha.elim) (fun hb => hb.elim (fun hba => hba.elim) (fun hbb => hbb.elim (fun hbba => d14 q a hbba) (fun hbbb => d15 q a hbbb))))⟩, s0, (fun q h => h.elim (fun ha => s1 q ha) (fun hb => hb.elim (fun hba => hba.elim) (fun hbb => hbb.elim (fun hbba => hbba.elim) (fun hbbb => hbbb.elim (fun hbbba => s4 q hbbba) (fun hbbbb => s5 q hbbbb))))), (fun q a h => h.elim (fun ha => d01 q a ha) (fun hb => hb.elim (fun hba => hba.elim) (fun hbb => hbb.elim (fun hbba => hbba.elim) (fun hbbb => hbbb.elim (fun hbbba => d04 q a hbbba) (fun hbbbb => d05 q a hbbbb)))))⟩
theorem mkCore_u : MkC 13 zAn zEe zAM := by
 intro S cs x k w h h0 hm hb
 obtain ⟨v0, v1, v2, v5, v6, v7, v8, S0, S1, S4, S5, rfl, i2, i3, o0, o1, o4, o5, s0, s1, s4, s5, d01, d04, d05, d14, d15, d45⟩ := zBd h
 clear h
 rw [zNm] at hm ⊢
 rw [show zEe.bk x = zBb.bk x.1 + (zDl.bk x.2.1 + (0 + (0 + (zBE.bk x.2.2.2.2.1 + zBn.bk x.2.2.2.2.2)))) from rfl] at hb
 have el : lot = 4398046511104 := rfl
 change Calls Tryz.prog 13 #[.agg #[v0, v1, v2, .int .i64 x.2.2.1, .int .i64 x.2.2.2.1, v5, v6, v7, v8], .int .i64 k] w _
 have C0 : Hid (∀ L W, L = k → zAB.own W (Old w S0) [v0, v1] x.1 → 0 ≤ L → L + (zBb.cV x.1 : Int) ≤ (lot : Int) → Calls Tryz.prog 41 #[.agg #[v0, v1], .int .i64 L] W fun e w' => e = .returned (.int .i64 (L + (zBb.cV x.1 : Int))) ∧ zAB.own w' (Old w S0) [v0, v1] (zBb.mV k x.1) ∧ Chg (Old w S0) W w') := fun L W hL ho a b => by subst hL; exact zNk (Old w S0) [v0, v1] _ _ W ho a b (by omega)
 have C1 : Hid (∀ L W, L = (k + ((zBb.cV x.1 : Nat) : Int)) → zBX.own W (Old w S1) [v2] x.2.1 → 0 ≤ L → L + (zDl.cV x.2.1 : Int) ≤ (lot : Int) → Calls Tryz.prog 42 #[v2, .int .i64 L] W fun e w' => e = .returned (.int .i64 (L + (zDl.cV x.2.1 : Int))) ∧ zBX.own w' (Old w S1) [v2] (zDl.mV (k + ((zBb.cV x.1 : Nat) : Int)) x.2.1) ∧ Chg (Old w S1) W w') := fun L W hL ho a b => by subst hL; exact mkOps_u (Old w S1) [v2] _ _ W ho a b (by omega)
 have C4 : Hid (∀ L W, L = ((((k + ((zBb.cV x.1 : Nat) : Int)) + ((zDl.cV x.2.1 : Nat) : Int)) + ((zBx.cV x.2.2.1 : Nat) : Int)) + ((zBx.cV x.2.2.2.1 : Nat) : Int)) → zAS.own W (Old w S4) [v5, v6, v7] x.2.2.2.2.1 → 0 ≤ L → L + (zBE.cV x.2.2.2.2.1 : Int) ≤ (lot : Int) → Calls Tryz.prog 43 #[.agg #[v5, v6, v7], .int .i64 L] W fun e w' => e = .returned (.int .i64 (L + (zBE.cV x.2.2.2.2.1 : Int))) ∧ zAS.own w' (Old w S4) [v5, v6, v7] (zBE.mV ((((k + ((zBb.cV x.1 : Nat) : Int)) + ((zDl.cV x.2.1 : Nat) : Int)) + ((zBx.cV x.2.2.1 : Nat) : Int)) + ((zBx.cV x.2.2.2.1 : Nat) : Int)) x.2.2.2.2.1) ∧ Chg (Old w S4) W w') := fun L W hL ho a b => by subst hL; exact mkWay_u (Old w S4) [v5, v6, v7] _ _ W ho a b (by omega)
 have C5 : Hid (∀ L W, L = (((((k + ((zBb.cV x.1 : Nat) : Int)) + ((zDl.cV x.2.1 : Nat) : Int)) + ((zBx.cV x.2.2.1 : Nat) : Int)) + ((zBx.cV x.2.2.2.1 : Nat) : Int)) + ((zBE.cV x.2.2.2.2.1 : Nat) : Int)) → zA5.own W (Old w S5) [v8] x.2.2.2.2.2 → 0 ≤ L → L + (zBn.cV x.2.2.2.2.2 : Int) ≤ (lot : Int) → Calls Tryz.prog 44 #[v8, .int .i64 L] W fun e w' => e = .returned (.int .i64 (L + (zBn.cV x.2.2.2.2.2 : Int))) ∧ zA5.own w' (Old w S5) [v8] (zBn.mV (((((k + ((zBb.cV x.1 : Nat) : Int)) + ((zDl.cV x.2.1 : Nat) : Int)) + ((zBx.cV x.2.2.1 : Nat) : Int)) + ((zBx.cV x.2.2.2.1 : Nat) : Int)) + ((zBE.cV x.2.2.2.2.1 : Nat) : Int)) x.2.2.2.2.2) ∧ Chg (Old w S5) W w') := fun L W hL ho a b => by subst hL; exact mkInts_u (Old w S5) [v8] _ _ W ho a b (by omega)
 have X := zAy w (.cells #[v0, v1, v2, .int .i64 x.2.2.1, .int .i64 x.2.2.2.1, v5, v6, v7, v8] 41)
 have hs : w.heap.size < (w.alloc (.cells #[v0, v1, v2, .int .i64 x.2.2.1, .int .i64 x.2.2.2.1, v5, v6, v7, v8] 41)).heap.size := by simp
 have CH : Chg S (w.alloc (.cells #[v0, v1, v2, .int .i64 x.2.2.1, .int .i64 x.2.2.2.1, v5, v6, v7, v8] 41)) (w.alloc (.cells #[v0, v1, v2, .int .i64 x.2.2.1, .int .i64 x.2.2.2.1, v5, v6, v7, v8] 41)) := Chg.refl _ _
 have FB : ∀ W, Chg S (w.alloc (.cells #[v0, v1, v2, .int .i64 x.2.2.1, .int .i64 x.2.2.2.1, v5, v6, v7, v8] 41)) W → Chg S w W := fun W => zEj
 have A0 := zBQ (.cells #[v0, v1, v2, .int .i64 x.2.2.1, .int .i64 x.2.2.2.1, v5, v6, v7, v8] 41) (zBM o0)
 have hn0 : ¬ Old w S0 w.heap.size := fun h => by have := h.2; omega
 have A1 := zBQ (.cells #[v0, v1, v2, .int .i64 x.2.2.1, .int .i64 x.2.2.2.1, v5, v6, v7, v8] 41) (zBM o1)
 have hn1 : ¬ Old w S1 w.heap.size := fun h => by have := h.2; omega
 have A4 := zBQ (.cells #[v0, v1, v2, .int .i64 x.2.2.1, .int .i64 x.2.2.2.1, v5, v6, v7, v8] 41) (zBM o4)
 have hn4 : ¬ Old w S4 w.heap.size := fun h => by have := h.2; omega
 have A5 := zBQ (.cells #[v0, v1, v2, .int .i64 x.2.2.1, .int .i64 x.2.2.2.1, v5, v6, v7, v8] 41) (zBM o5)
 have hn5 : ¬ Old w S5 w.heap.size := fun h => by have := h.2; omega
 have t01 : Dis (Old w S0) (Old w S1) := d01.sub zB6 zB6
 have t04 : Dis (Old w S0) (Old w S4) := d04.sub zB6 zB6
 have t05 : Dis (Old w S0) (Old w S5) := d05.sub zB6 zB6
 have t14 : Dis (Old w S1) (Old w S4) := d14.sub zB6 zB6
 have t15 : Dis (Old w S1) (Old w S5) := d15.sub zB6 zB6
 have t45 : Dis (Old w S4) (Old w S5) := d45.sub zB6 zB6
 have HD : Hid _ := And.intro t01 (And.intro t04 (And.intro t05 (And.intro t14 (And.intro t15 (And.intro t45 (And.intro hn0 (And.intro hn1 (And.intro hn4 (And.intro hn5 (And.intro s0 (And.intro s1 (And.intro s4 (And.intro s5 (And.intro i2 (i3)))))))))))))))
 have HF : Hid _ := FB
 clear FB o0 o1 o4 o5 t01 t04 t05 t14 t15 t45 d01 d04 d05 d14 d15 d45 hn0 hn1 hn4 hn5 s0 s1 s4 s5 i2 i3
 have HMV : Hid (∀ (P : zAE → Prop), P (zBb.mV k x.1, zDl.mV (k + ((zBb.cV x.1 : Nat) : Int)) x.2.1, zBx.mV ((k + ((zBb.cV x.1 : Nat) : Int)) + ((zDl.cV x.2.1 : Nat) : Int)) x.2.2.1, zBx.mV (((k + ((zBb.cV x.1 : Nat) : Int)) + ((zDl.cV x.2.1 : Nat) : Int)) + ((zBx.cV x.2.2.1 : Nat) : Int)) x.2.2.2.1, zBE.mV ((((k + ((zBb.cV x.1 : Nat) : Int)) + ((zDl.cV x.2.1 : Nat) : Int)) + ((zBx.cV x.2.2.1 : Nat) : Int)) + ((zBx.cV x.2.2.2.1 : Nat) : Int)) x.2.2.2.2.1, zBn.mV (((((k + ((zBb.cV x.1 : Nat) : Int)) + ((zDl.cV x.2.1 : Nat) : Int)) + ((zBx.cV x.2.2.1 : Nat) : Int)) + ((zBx.cV x.2.2.2.1 : Nat) : Int)) + ((zBE.cV x.2.2.2.2.1 : Nat) : Int)) x.2.2.2.2.2) → P (zEe.mV k x)) := fun P hp => by rw [zNn]; exact hp
 have z2 : ((zBx.cV x.2.2.1 : Nat) : Int) = 0 := rfl
 have z3 : ((zBx.cV x.2.2.2.1 : Nat) : Int) = 0 := rfl
 generalize zBb.cV x.1 = n0 at C0 C1 C4 C5 HMV hm ⊢
 generalize zDl.cV x.2.1 = n1 at C1 C4 C5 HMV hm ⊢
 generalize zBE.cV x.2.2.2.2.1 = n4 at C4 C5 HMV hm ⊢
 generalize zBn.cV x.2.2.2.2.2 = n5 at C5 HMV hm ⊢
 go_enter Tryz.func13, Tryz.ntmps13
 go_wp2_with fail
 generalize w.alloc (.cells #[v0, v1, v2, .int .i64 x.2.2.1, .int .i64 x.2.2.2.1, v5, v6, v7, v8] 41) = W0 at X hs CH HF A0 A1 A4 A5 ⊢
 refine (C0.out (k) _ (by omega) A0 (by omega) (by omega)).mono ?_
 rintro e w1 ⟨rfl, p0, cq⟩
 obtain ⟨t01, t04, t05, t14, t15, t45, hn0, hn1, hn4, hn5, s0, s1, s4, s5, i2, i3⟩ := HD.out
 replace X := (cq.block w.heap.size hs hn0).trans X
 replace hs := Nat.lt_of_lt_of_le hs cq.size
 replace CH := CH.trans (cq.mono (zB6.trans s0))
 replace A1 := zAO A1 cq (Dis.symm t01)
 replace A4 := zAO A4 cq (Dis.symm t04)
 replace A5 := zAO A5 cq (Dis.symm t05)
 clear cq C0 t01 t04 t05 t14 t15 t45 hn0 hn1 hn4 hn5 s0 s1 s4 s5 i2 i3
 obtain ⟨y0, y1, y2, y3, y4, y5, y6, y7, y8⟩ := zAc X
 have HS : Hid _ := And.intro CH (And.intro A1 (And.intro A4 (And.intro A5 (p0))))
 clear CH A1 A4 A5 p0
 go_wp2_with fail
 clear y0 y1 y2 y3 y4 y5 y6 y7 y8
 obtain ⟨CH, A1, A4, A5, p0⟩ := HS.out
 clear HS
 refine (C1.out (k + (n0 : Int)) _ (by omega) A1 (by omega) (by omega)).mono ?_
 rintro e w2 ⟨rfl, p1, cq⟩
 obtain ⟨t01, t04, t05, t14, t15, t45, hn0, hn1, hn4, hn5, s0, s1, s4, s5, i2, i3⟩ := HD.out
 replace X := (cq.block w.heap.size hs hn1).trans X
 replace hs := Nat.lt_of_lt_of_le hs cq.size
 replace CH := CH.trans (cq.mono (zB6.trans s1))
 replace p0 := zAO p0 cq t01
 replace A4 := zAO A4 cq (Dis.symm t14)
 replace A5 := zAO A5 cq (Dis.symm t15)
 clear cq C1 t01 t04 t05 t14 t15 t45 hn0 hn1 hn4 hn5 s0 s1 s4 s5 i2 i3
 obtain ⟨y0, y1, y2, y3, y4, y5, y6, y7, y8⟩ := zAc X
 have HS : Hid _ := And.intro CH (And.intro A4 (And.intro A5 (And.intro p0 (p1))))
 clear CH A4 A5 p0 p1
 go_wp2_with fail
 clear y0 y1 y2 y3 y4 y5 y6 y7 y8
 obtain ⟨CH, A4, A5, p0, p1⟩ := HS.out
 clear HS
 refine (C4.out (k + (n0 : Int) + (n1 : Int)) _ (by omega) A4 (by omega) (by omega)).mono ?_
 rintro e w3 ⟨rfl, p4, cq⟩
 obtain ⟨t01, t04, t05, t14, t15, t45, hn0, hn1, hn4, hn5, s0, s1, s4, s5, i2, i3⟩ := HD.out
 replace X := (cq.block w.heap.size hs hn4).trans X
 replace hs := Nat.lt_of_lt_of_le hs cq.size
 replace CH := CH.trans (cq.mono (zB6.trans s4))
 replace p0 := zAO p0 cq t04
 replace p1 := zAO p1 cq t14
 replace A5 := zAO A5 cq (Dis.symm t45)
 clear cq C4 t01 t04 t05 t14 t15 t45 hn0 hn1 hn4 hn5 s0 s1 s4 s5 i2 i3
 obtain ⟨y0, y1, y2, y3, y4, y5, y6, y7, y8⟩ := zAc X
 have HS : Hid _ := And.intro CH (And.intro A5 (And.intro p0 (And.intro p1 (p4))))
 clear CH A5 p0 p1 p4
 go_wp2_with fail
 clear y0 y1 y2 y3 y4 y5 y6 y7 y8
 obtain ⟨CH, A5, p0, p1, p4⟩ := HS.out
 clear HS
 refine (C5.out (k + (n0 : Int) + (n1 : Int) + (n4 : Int)) _ (by omega) A5 (by omega) (by omega)).mono ?_
 rintro e w4 ⟨rfl, p5, cq⟩
 obtain ⟨t01, t04, t05, t14, t15, t45, hn0, hn1, hn4, hn5, s0, s1, s4, s5, i2, i3⟩ := HD.out
 replace X := (cq.block w.heap.size hs hn5).trans X
 replace hs := Nat.lt_of_lt_of_le hs cq.size
 replace CH := CH.trans (cq.mono (zB6.trans s5))
 replace p0 := zAO p0 cq t05
 replace p1 := zAO p1 cq t15
 replace p4 := zAO p4 cq t45
 clear cq C5 t01 t04 t05 t14 t15 t45 hn0 hn1 hn4 hn5 s0 s1 s4 s5 i2 i3
 obtain ⟨y0, y1, y2, y3, y4, y5, y6, y7, y8⟩ := zAc X
 clear y0 y1 y2 y3 y4 y5 y6 y7 y8 X
 have HS : Hid _ := And.intro CH (And.intro p0 (And.intro p1 (And.intro p4 (p5))))
 clear CH p0 p1 p4 p5
 go_wp2
 go_ret
 obtain ⟨CH, p0, p1, p4, p5⟩ := HS.out
 obtain ⟨t01, t04, t05, t14, t15, t45, hn0, hn1, hn4, hn5, s0, s1, s4, s5, i2, i3⟩ := HD.out
 exact ⟨zAW (by omega), HMV.out (fun y => zAn.own _ S _ y) (zCo (x := (zBb.mV k x.1, zDl.mV (k + (n0 : Int)) x.2.1, zBx.mV ((k + (n0 : Int)) + (n1 : Int)) x.2.2.1, zBx.mV (((k + (n0 : Int)) + (n1 : Int)) + ((zBx.cV x.2.2.1 : Nat) : Int)) x.2.2.2.1, zBE.mV ((((k + (n0 : Int)) + (n1 : Int)) + ((zBx.cV x.2.2.1 : Nat) : Int)) + ((zBx.cV x.2.2.2.1 : Nat) : Int)) x.2.2.2.2.1, zBn.mV (((((k + (n0 : Int)) + (n1 : Int)) + ((zBx.cV x.2.2.1 : Nat) : Int)) + ((zBx.cV x.2.2.2.1 : Nat) : Int)) + (n4 : Int)) x.2.2.2.2.2)) i2 i3 p0 p1 p4 p5 (zB6.trans s0) (zB6.trans s1) (zB6.trans s4) (zB6.trans s5) t01 t04 t05 t14 t15 t45), HF.out _ CH⟩
theorem zAr {w : World} {g : Nat} {cs : Array Value} {t : TypeId} (h : w.heap[g]? = some (.cells cs t (0, 0))) : w.frozen? ⟨g, 0, none⟩ = false ∧ w.frozen? ⟨g, 1, none⟩ = false ∧ w.frozen? ⟨g, 2, none⟩ = false ∧ w.frozen? ⟨g, 3, none⟩ = false ∧ w.frozen? ⟨g, 4, none⟩ = false ∧ w.frozen? ⟨g, 5, none⟩ = false ∧ w.frozen? ⟨g, 6, none⟩ = false ∧ w.frozen? ⟨g, 7, none⟩ = false ∧ w.frozen? ⟨g, 8, none⟩ = false :=
 ⟨frozen_of_row w g 0 _ t h, frozen_of_row w g 1 _ t h, frozen_of_row w g 2 _ t h, frozen_of_row w g 3 _ t h, frozen_of_row w g 4 _ t h, frozen_of_row w g 5 _ t h, frozen_of_row w g 6 _ t h, frozen_of_row w g 7 _ t h, frozen_of_row w g 8 _ t h⟩
theorem zAV {w : World} {g : Nat} {x0 x1 x2 x3 x4 x5 x6 x7 x8 y0 y1 y2 y3 y4 y5 y6 y7 y8 : Value} {t : TypeId} (h : w.heap[g]? = some (.cells #[x0, x1, x2, x3, x4, x5, x6, x7, x8] t (0, 0))) : (((((((((w.setCell ⟨g, 0, none⟩ (y0)).setCell ⟨g, 1, none⟩ (y1)).setCell ⟨g, 2, none⟩ (y2)).setCell ⟨g, 3, none⟩ (y3)).setCell ⟨g, 4, none⟩ (y4)).setCell ⟨g, 5, none⟩ (y5)).setCell ⟨g, 6, none⟩ (y6)).setCell ⟨g, 7, none⟩ (y7)).setCell ⟨g, 8, none⟩ (y8)).heap[g]? = some (.cells #[y0, y1, y2, y3, y4, y5, y6, y7, y8] t (0, 0)) := by
 have h0 : (w.setCell ⟨g, 0, none⟩ (y0)).heap[g]? = some (.cells #[y0, x1, x2, x3, x4, x5, x6, x7, x8] t (0, 0)) := heap_setCell_same _ g 0 _ t y0 h
 have h1 : ((w.setCell ⟨g, 0, none⟩ (y0)).setCell ⟨g, 1, none⟩ (y1)).heap[g]? = some (.cells #[y0, y1, x2, x3, x4, x5, x6, x7, x8] t (0, 0)) := heap_setCell_same _ g 1 _ t y1 h0
 have h2 : (((w.setCell ⟨g, 0, none⟩ (y0)).setCell ⟨g, 1, none⟩ (y1)).setCell ⟨g, 2, none⟩ (y2)).heap[g]? = some (.cells #[y0, y1, y2, x3, x4, x5, x6, x7, x8] t (0, 0)) := heap_setCell_same _ g 2 _ t y2 h1
 have h3 : ((((w.setCell ⟨g, 0, none⟩ (y0)).setCell ⟨g, 1, none⟩ (y1)).setCell ⟨g, 2, none⟩ (y2)).setCell ⟨g, 3, none⟩ (y3)).heap[g]? = some (.cells #[y0, y1, y2, y3, x4, x5, x6, x7, x8] t (0, 0)) := heap_setCell_same _ g 3 _ t y3 h2
 have h4 : (((((w.setCell ⟨g, 0, none⟩ (y0)).setCell ⟨g, 1, none⟩ (y1)).setCell ⟨g, 2, none⟩ (y2)).setCell ⟨g, 3, none⟩ (y3)).setCell ⟨g, 4, none⟩ (y4)).heap[g]? = some (.cells #[y0, y1, y2, y3, y4, x5, x6, x7, x8] t (0, 0)) := heap_setCell_same _ g 4 _ t y4 h3
 have h5 : ((((((w.setCell ⟨g, 0, none⟩ (y0)).setCell ⟨g, 1, none⟩ (y1)).setCell ⟨g, 2, none⟩ (y2)).setCell ⟨g, 3, none⟩ (y3)).setCell ⟨g, 4, none⟩ (y4)).setCell ⟨g, 5, none⟩ (y5)).heap[g]? = some (.cells #[y0, y1, y2, y3, y4, y5, x6, x7, x8] t (0, 0)) := heap_setCell_same _ g 5 _ t y5 h4
 have h6 : (((((((w.setCell ⟨g, 0, none⟩ (y0)).setCell ⟨g, 1, none⟩ (y1)).setCell ⟨g, 2, none⟩ (y2)).setCell ⟨g, 3, none⟩ (y3)).setCell ⟨g, 4, none⟩ (y4)).setCell ⟨g, 5, none⟩ (y5)).setCell ⟨g, 6, none⟩ (y6)).heap[g]? = some (.cells #[y0, y1, y2, y3, y4, y5, y6, x7, x8] t (0, 0)) := heap_setCell_same _ g 6 _ t y6 h5
 have h7 : ((((((((w.setCell ⟨g, 0, none⟩ (y0)).setCell ⟨g, 1, none⟩ (y1)).setCell ⟨g, 2, none⟩ (y2)).setCell ⟨g, 3, none⟩ (y3)).setCell ⟨g, 4, none⟩ (y4)).setCell ⟨g, 5, none⟩ (y5)).setCell ⟨g, 6, none⟩ (y6)).setCell ⟨g, 7, none⟩ (y7)).heap[g]? = some (.cells #[y0, y1, y2, y3, y4, y5, y6, y7, x8] t (0, 0)) := heap_setCell_same _ g 7 _ t y7 h6
 have h8 : (((((((((w.setCell ⟨g, 0, none⟩ (y0)).setCell ⟨g, 1, none⟩ (y1)).setCell ⟨g, 2, none⟩ (y2)).setCell ⟨g, 3, none⟩ (y3)).setCell ⟨g, 4, none⟩ (y4)).setCell ⟨g, 5, none⟩ (y5)).setCell ⟨g, 6, none⟩ (y6)).setCell ⟨g, 7, none⟩ (y7)).setCell ⟨g, 8, none⟩ (y8)).heap[g]? = some (.cells #[y0, y1, y2, y3, y4, y5, y6, y7, y8] t (0, 0)) := heap_setCell_same _ g 8 _ t y8 h7
 exact h8
theorem toCore_u : ToC 7 zAn zEe zAM := by
 intro cs x w h hm
 obtain ⟨v0, v1, v2, v5, v6, v7, v8, rfl, r0, r1, i2, i3, r4, r5⟩ := zCs h
 clear h
 rw [show zEe.bk x = zBb.bk x.1 + (zDl.bk x.2.1 + (0 + (0 + (zBE.bk x.2.2.2.2.1 + zBn.bk x.2.2.2.2.2)))) from rfl] at hm
 change Calls Tryz.prog 7 #[.agg #[v0, v1, v2, .int .i64 x.2.2.1, .int .i64 x.2.2.2.1, v5, v6, v7, v8]] w _
 have C0 : Hid (∀ W, Below w.heap.size w W → Calls Tryz.prog 26 #[.agg #[v0, v1]] W fun e w' => ∃ a0 c0 b0 d0, e = .returned (.agg #[.slice a0 x.1.1.length c0, .slice b0 x.1.2.length d0]) ∧ zAY zAB W w' [.slice a0 x.1.1.length c0, .slice b0 x.1.2.length d0] x.1) := fun W hb => (zNi [v0, v1] _ W (zAN r0 hb) (by omega)).mono (by rintro e w' ⟨ds, rfl, mm⟩; obtain ⟨a0, c0, b0, d0, rfl, -⟩ := zAH (zAB.own_rd mm.1); exact ⟨a0, c0, b0, d0, rfl, mm⟩)
 have C1 : Hid (∀ W, Below w.heap.size w W → Calls Tryz.prog 27 #[v2] W fun e w' => ∃ a1 c1, e = .returned (.slice a1 x.2.1.length c1) ∧ zAY zBX W w' [.slice a1 x.2.1.length c1] x.2.1) := fun W hb => (toOps_u [v2] _ W (zAN r1 hb) (by omega)).mono (by rintro e w' ⟨ds, rfl, mm⟩; obtain ⟨a1, c1, rfl, -⟩ := zBX.own_rd mm.1; exact ⟨a1, c1, rfl, mm⟩)
 have C4 : Hid (∀ W, Below w.heap.size w W → Calls Tryz.prog 28 #[.agg #[v5, v6, v7]] W fun e w' => ∃ a4 c4, e = .returned (.agg #[.int .i64 x.2.2.2.2.1.1, .int .i64 x.2.2.2.2.1.2.1, .slice a4 x.2.2.2.2.1.2.2.length c4]) ∧ zAY zAS W w' [.int .i64 x.2.2.2.2.1.1, .int .i64 x.2.2.2.2.1.2.1, .slice a4 x.2.2.2.2.1.2.2.length c4] x.2.2.2.2.1) := fun W hb => (toWay_u [v5, v6, v7] _ W (zAN r4 hb) (by omega)).mono (by rintro e w' ⟨ds, rfl, mm⟩; obtain ⟨a4, c4, rfl, -⟩ := zAL (zAS.own_rd mm.1); exact ⟨a4, c4, rfl, mm⟩)
 have C5 : Hid (∀ W, Below w.heap.size w W → Calls Tryz.prog 29 #[v8] W fun e w' => ∃ a5 c5, e = .returned (.slice a5 x.2.2.2.2.2.length c5) ∧ zAY zA5 W w' [.slice a5 x.2.2.2.2.2.length c5] x.2.2.2.2.2) := fun W hb => (toInts_u [v8] _ W (zAN r5 hb) (by omega)).mono (by rintro e w' ⟨ds, rfl, mm⟩; obtain ⟨a5, c5, rfl, -⟩ := zA5.own_rd mm.1; exact ⟨a5, c5, rfl, mm⟩)
 clear hm r0 r1 r4 r5
 have HI : Hid _ := And.intro i2 (i3)
 clear i2 i3
 have X0 := zAK (.cells #[.slice none 0 0, .slice none 0 0, .slice none 0 0, .int .i64 0, .int .i64 0, .int .i64 0, .int .i64 0, .slice none 0 0, .slice none 0 0] 41) (zAK (.cells #[.slice none 0 0, .slice none 0 0, .slice none 0 0, .int .i64 0, .int .i64 0, .int .i64 0, .int .i64 0, .slice none 0 0, .slice none 0 0] 41) (zAy w (.cells #[v0, v1, v2, .int .i64 x.2.2.1, .int .i64 x.2.2.2.1, v5, v6, v7, v8] 30)))
 have X1 := zAK (.cells #[.slice none 0 0, .slice none 0 0, .slice none 0 0, .int .i64 0, .int .i64 0, .int .i64 0, .int .i64 0, .slice none 0 0, .slice none 0 0] 41) (zAy (w.alloc (.cells #[v0, v1, v2, .int .i64 x.2.2.1, .int .i64 x.2.2.2.1, v5, v6, v7, v8] 30)) (.cells #[.slice none 0 0, .slice none 0 0, .slice none 0 0, .int .i64 0, .int .i64 0, .int .i64 0, .int .i64 0, .slice none 0 0, .slice none 0 0] 41))
 have X2 := zAy ((w.alloc (.cells #[v0, v1, v2, .int .i64 x.2.2.1, .int .i64 x.2.2.2.1, v5, v6, v7, v8] 30)).alloc (.cells #[.slice none 0 0, .slice none 0 0, .slice none 0 0, .int .i64 0, .int .i64 0, .int .i64 0, .int .i64 0, .slice none 0 0, .slice none 0 0] 41)) (.cells #[.slice none 0 0, .slice none 0 0, .slice none 0 0, .int .i64 0, .int .i64 0, .int .i64 0, .int .i64 0, .slice none 0 0, .slice none 0 0] 41)
 rw [zAp] at X1
 rw [zAp, zAp] at X2
 have B : Below w.heap.size w (((w.alloc (.cells #[v0, v1, v2, .int .i64 x.2.2.1, .int .i64 x.2.2.2.1, v5, v6, v7, v8] 30)).alloc (.cells #[.slice none 0 0, .slice none 0 0, .slice none 0 0, .int .i64 0, .int .i64 0, .int .i64 0, .int .i64 0, .slice none 0 0, .slice none 0 0] 41)).alloc (.cells #[.slice none 0 0, .slice none 0 0, .slice none 0 0, .int .i64 0, .int .i64 0, .int .i64 0, .int .i64 0, .slice none 0 0, .slice none 0 0] 41)) := (((Below.refl _ w).alloc (Nat.le_refl _) _).alloc (by simp) _).alloc (by simp; omega) _
 have e3 : w.heap.size + 1 + 1 + 1 ≤ (((w.alloc (.cells #[v0, v1, v2, .int .i64 x.2.2.1, .int .i64 x.2.2.2.1, v5, v6, v7, v8] 30)).alloc (.cells #[.slice none 0 0, .slice none 0 0, .slice none 0 0, .int .i64 0, .int .i64 0, .int .i64 0, .int .i64 0, .slice none 0 0, .slice none 0 0] 41)).alloc (.cells #[.slice none 0 0, .slice none 0 0, .slice none 0 0, .int .i64 0, .int .i64 0, .int .i64 0, .int .i64 0, .slice none 0 0, .slice none 0 0] 41)).heap.size := by simp
 go_enter Tryz.func7, Tryz.ntmps7
 go_wp2_with fail
 generalize ((w.alloc (.cells #[v0, v1, v2, .int .i64 x.2.2.1, .int .i64 x.2.2.2.1, v5, v6, v7, v8] 30)).alloc (.cells #[.slice none 0 0, .slice none 0 0, .slice none 0 0, .int .i64 0, .int .i64 0, .int .i64 0, .int .i64 0, .slice none 0 0, .slice none 0 0] 41)).alloc (.cells #[.slice none 0 0, .slice none 0 0, .slice none 0 0, .int .i64 0, .int .i64 0, .int .i64 0, .int .i64 0, .slice none 0 0, .slice none 0 0] 41) = u0 at X0 X1 X2 B e3 ⊢
 refine (C0.out _ B).mono ?_
 rintro e w1 ⟨a0, c0, b0, d0, rfl, mm⟩
 have hs0 := mm.2.size
 replace B := zAb B mm.2
 replace X0 := zAa mm.2 X0
 replace X1 := zAa mm.2 X1
 replace X2 := zAa mm.2 X2
 have O0 := mm.1
 clear mm C0
 obtain ⟨p0, p1, p2, p3, p4, p5, p6, p7, p8⟩ := zAc X0
 obtain ⟨y0, y1, y2, y3, y4, y5, y6, y7, y8⟩ := zAc X2
 obtain ⟨f0, f1, f2, f3, f4, f5, f6, f7, f8⟩ := zAr X2
 have HS : Hid _ := And.intro X0 (And.intro X1 (And.intro X2 (And.intro B (O0))))
 clear X0 X1 X2 B O0
 go_wp2_with fail
 clear p0 p1 p2 p3 p4 p5 p6 p7 p8 y0 y1 y2 y3 y4 y5 y6 y7 y8 f0 f1 f2 f3 f4 f5 f6 f7 f8
 obtain ⟨X0, X1, X2, B, O0⟩ := HS.out
 clear HS
 have k0 : (w1.setCell ⟨w.heap.size + 1 + 1, 0, none⟩ (.slice a0 x.1.1.length c0)).heap[w.heap.size + 1 + 1]? = some (.cells #[.slice a0 x.1.1.length c0, .slice none 0 0, .slice none 0 0, .int .i64 0, .int .i64 0, .int .i64 0, .int .i64 0, .slice none 0 0, .slice none 0 0] 41 (0, 0)) := heap_setCell_same _ (w.heap.size + 1 + 1) 0 _ _ (.slice a0 x.1.1.length c0) X2
 have k1 : ((w1.setCell ⟨w.heap.size + 1 + 1, 0, none⟩ (.slice a0 x.1.1.length c0)).setCell ⟨w.heap.size + 1 + 1, 1, none⟩ (.slice b0 x.1.2.length d0)).heap[w.heap.size + 1 + 1]? = some (.cells #[.slice a0 x.1.1.length c0, .slice b0 x.1.2.length d0, .slice none 0 0, .int .i64 0, .int .i64 0, .int .i64 0, .int .i64 0, .slice none 0 0, .slice none 0 0] 41 (0, 0)) := heap_setCell_same _ (w.heap.size + 1 + 1) 1 _ _ (.slice b0 x.1.2.length d0) k0
 have qn0 := (zAP (g := w.heap.size + 1 + 1) (o := 1) (v := .slice b0 x.1.2.length d0) (zAP (g := w.heap.size + 1 + 1) (o := 0) (v := .slice a0 x.1.1.length c0) X0 (by omega)) (by omega))
 have qn1 := (zAP (g := w.heap.size + 1 + 1) (o := 1) (v := .slice b0 x.1.2.length d0) (zAP (g := w.heap.size + 1 + 1) (o := 0) (v := .slice a0 x.1.1.length c0) X1 (by omega)) (by omega))
 have qb1 : Below w.heap.size w ((w1.setCell ⟨w.heap.size + 1 + 1, 0, none⟩ (.slice a0 x.1.1.length c0)).setCell ⟨w.heap.size + 1 + 1, 1, none⟩ (.slice b0 x.1.2.length d0)) := (zAq (zAq B (by omega)) (by omega))
 have qo0 : zAB.own ((w1.setCell ⟨w.heap.size + 1 + 1, 0, none⟩ (.slice a0 x.1.1.length c0)).setCell ⟨w.heap.size + 1 + 1, 1, none⟩ (.slice b0 x.1.2.length d0)) _ _ _ := (zAl (zAl O0 (fun h => by have := h.1; omega)) (fun h => by have := h.1; omega))
 have qz1 : w1.heap.size ≤ ((w1.setCell ⟨w.heap.size + 1 + 1, 0, none⟩ (.slice a0 x.1.1.length c0)).setCell ⟨w.heap.size + 1 + 1, 1, none⟩ (.slice b0 x.1.2.length d0)).heap.size := by simp
 have qz2 : ((w1.setCell ⟨w.heap.size + 1 + 1, 0, none⟩ (.slice a0 x.1.1.length c0)).setCell ⟨w.heap.size + 1 + 1, 1, none⟩ (.slice b0 x.1.2.length d0)).heap.size ≤ w1.heap.size := by simp
 clear X0 X1 X2 B O0 k0
 generalize ((w1.setCell ⟨w.heap.size + 1 + 1, 0, none⟩ (.slice a0 x.1.1.length c0)).setCell ⟨w.heap.size + 1 + 1, 1, none⟩ (.slice b0 x.1.2.length d0)) = u1 at qn0 qn1 k1 qb1 qz1 qz2 qo0 ⊢
 have X0 := qn0
 have X1 := qn1
 have X2 := k1
 have B := qb1
 have O0 := qo0
 have za0 := qz1
 have zb0 := qz2
 clear qn0 qn1 k1 qb1 qz1 qz2 qo0
 refine (C1.out _ B).mono ?_
 rintro e w2 ⟨a1, c1, rfl, mm⟩
 have hs1 := mm.2.size
 replace B := zAb B mm.2
 replace X0 := zAa mm.2 X0
 replace X1 := zAa mm.2 X1
 replace X2 := zAa mm.2 X2
 replace O0 := zDs O0 mm.2 (by omega)
 have O1 := mm.1
 clear mm C1
 obtain ⟨p0, p1, p2, p3, p4, p5, p6, p7, p8⟩ := zAc X0
 obtain ⟨y0, y1, y2, y3, y4, y5, y6, y7, y8⟩ := zAc X2
 obtain ⟨f0, f1, f2, f3, f4, f5, f6, f7, f8⟩ := zAr X2
 have HS : Hid _ := And.intro X0 (And.intro X1 (And.intro X2 (And.intro B (And.intro O0 (O1)))))
 clear X0 X1 X2 B O0 O1
 go_wp2_with fail
 clear p0 p1 p2 p3 p4 p5 p6 p7 p8 y0 y1 y2 y3 y4 y5 y6 y7 y8 f0 f1 f2 f3 f4 f5 f6 f7 f8
 obtain ⟨X0, X1, X2, B, O0, O1⟩ := HS.out
 clear HS
 have k0 : (w2.setCell ⟨w.heap.size + 1 + 1, 2, none⟩ (.slice a1 x.2.1.length c1)).heap[w.heap.size + 1 + 1]? = some (.cells #[.slice a0 x.1.1.length c0, .slice b0 x.1.2.length d0, .slice a1 x.2.1.length c1, .int .i64 0, .int .i64 0, .int .i64 0, .int .i64 0, .slice none 0 0, .slice none 0 0] 41 (0, 0)) := heap_setCell_same _ (w.heap.size + 1 + 1) 2 _ _ (.slice a1 x.2.1.length c1) X2
 have k1 : ((w2.setCell ⟨w.heap.size + 1 + 1, 2, none⟩ (.slice a1 x.2.1.length c1)).setCell ⟨w.heap.size + 1 + 1, 3, none⟩ (.int .i64 x.2.2.1)).heap[w.heap.size + 1 + 1]? = some (.cells #[.slice a0 x.1.1.length c0, .slice b0 x.1.2.length d0, .slice a1 x.2.1.length c1, .int .i64 x.2.2.1, .int .i64 0, .int .i64 0, .int .i64 0, .slice none 0 0, .slice none 0 0] 41 (0, 0)) := heap_setCell_same _ (w.heap.size + 1 + 1) 3 _ _ (.int .i64 x.2.2.1) k0
 have k2 : (((w2.setCell ⟨w.heap.size + 1 + 1, 2, none⟩ (.slice a1 x.2.1.length c1)).setCell ⟨w.heap.size + 1 + 1, 3, none⟩ (.int .i64 x.2.2.1)).setCell ⟨w.heap.size + 1 + 1, 4, none⟩ (.int .i64 x.2.2.2.1)).heap[w.heap.size + 1 + 1]? = some (.cells #[.slice a0 x.1.1.length c0, .slice b0 x.1.2.length d0, .slice a1 x.2.1.length c1, .int .i64 x.2.2.1, .int .i64 x.2.2.2.1, .int .i64 0, .int .i64 0, .slice none 0 0, .slice none 0 0] 41 (0, 0)) := heap_setCell_same _ (w.heap.size + 1 + 1) 4 _ _ (.int .i64 x.2.2.2.1) k1
 have qn0 := (zAP (g := w.heap.size + 1 + 1) (o := 4) (v := .int .i64 x.2.2.2.1) (zAP (g := w.heap.size + 1 + 1) (o := 3) (v := .int .i64 x.2.2.1) (zAP (g := w.heap.size + 1 + 1) (o := 2) (v := .slice a1 x.2.1.length c1) X0 (by omega)) (by omega)) (by omega))
 have qn1 := (zAP (g := w.heap.size + 1 + 1) (o := 4) (v := .int .i64 x.2.2.2.1) (zAP (g := w.heap.size + 1 + 1) (o := 3) (v := .int .i64 x.2.2.1) (zAP (g := w.heap.size + 1 + 1) (o := 2) (v := .slice a1 x.2.1.length c1) X1 (by omega)) (by omega)) (by omega))
 have qb1 : Below w.heap.size w (((w2.setCell ⟨w.heap.size + 1 + 1, 2, none⟩ (.slice a1 x.2.1.length c1)).setCell ⟨w.heap.size + 1 + 1, 3, none⟩ (.int .i64 x.2.2.1)).setCell ⟨w.heap.size + 1 + 1, 4, none⟩ (.int .i64 x.2.2.2.1)) := (zAq (zAq (zAq B (by omega)) (by omega)) (by omega))
 have qo0 : zAB.own (((w2.setCell ⟨w.heap.size + 1 + 1, 2, none⟩ (.slice a1 x.2.1.length c1)).setCell ⟨w.heap.size + 1 + 1, 3, none⟩ (.int .i64 x.2.2.1)).setCell ⟨w.heap.size + 1 + 1, 4, none⟩ (.int .i64 x.2.2.2.1)) _ _ _ := (zAl (zAl (zAl O0 (fun h => by have := h.1; omega)) (fun h => by have := h.1; omega)) (fun h => by have := h.1; omega))
 have qo1 : zBX.own (((w2.setCell ⟨w.heap.size + 1 + 1, 2, none⟩ (.slice a1 x.2.1.length c1)).setCell ⟨w.heap.size + 1 + 1, 3, none⟩ (.int .i64 x.2.2.1)).setCell ⟨w.heap.size + 1 + 1, 4, none⟩ (.int .i64 x.2.2.2.1)) _ _ _ := (zAl (zAl (zAl O1 (fun h => by have := h.1; omega)) (fun h => by have := h.1; omega)) (fun h => by have := h.1; omega))
 have qz1 : w2.heap.size ≤ (((w2.setCell ⟨w.heap.size + 1 + 1, 2, none⟩ (.slice a1 x.2.1.length c1)).setCell ⟨w.heap.size + 1 + 1, 3, none⟩ (.int .i64 x.2.2.1)).setCell ⟨w.heap.size + 1 + 1, 4, none⟩ (.int .i64 x.2.2.2.1)).heap.size := by simp
 have qz2 : (((w2.setCell ⟨w.heap.size + 1 + 1, 2, none⟩ (.slice a1 x.2.1.length c1)).setCell ⟨w.heap.size + 1 + 1, 3, none⟩ (.int .i64 x.2.2.1)).setCell ⟨w.heap.size + 1 + 1, 4, none⟩ (.int .i64 x.2.2.2.1)).heap.size ≤ w2.heap.size := by simp
 clear X0 X1 X2 B O0 O1 k0 k1
 generalize (((w2.setCell ⟨w.heap.size + 1 + 1, 2, none⟩ (.slice a1 x.2.1.length c1)).setCell ⟨w.heap.size + 1 + 1, 3, none⟩ (.int .i64 x.2.2.1)).setCell ⟨w.heap.size + 1 + 1, 4, none⟩ (.int .i64 x.2.2.2.1)) = u2 at qn0 qn1 k2 qb1 qz1 qz2 qo0 qo1 ⊢
 have X0 := qn0
 have X1 := qn1
 have X2 := k2
 have B := qb1
 have O0 := qo0
 have O1 := qo1
 have za1 := qz1
 have zb1 := qz2
 clear qn0 qn1 k2 qb1 qz1 qz2 qo0 qo1
 refine (C4.out _ B).mono ?_
 rintro e w3 ⟨a4, c4, rfl, mm⟩
 have hs4 := mm.2.size
 replace B := zAb B mm.2
 replace X0 := zAa mm.2 X0
 replace X1 := zAa mm.2 X1
 replace X2 := zAa mm.2 X2
 replace O0 := zDs O0 mm.2 (by omega)
 replace O1 := zDs O1 mm.2 (by omega)
 have O4 := mm.1
 clear mm C4
 obtain ⟨p0, p1, p2, p3, p4, p5, p6, p7, p8⟩ := zAc X0
 obtain ⟨y0, y1, y2, y3, y4, y5, y6, y7, y8⟩ := zAc X2
 obtain ⟨f0, f1, f2, f3, f4, f5, f6, f7, f8⟩ := zAr X2
 have HS : Hid _ := And.intro X0 (And.intro X1 (And.intro X2 (And.intro B (And.intro O0 (And.intro O1 (O4))))))
 clear X0 X1 X2 B O0 O1 O4
 go_wp2_with fail
 clear p0 p1 p2 p3 p4 p5 p6 p7 p8 y0 y1 y2 y3 y4 y5 y6 y7 y8 f0 f1 f2 f3 f4 f5 f6 f7 f8
 obtain ⟨X0, X1, X2, B, O0, O1, O4⟩ := HS.out
 clear HS
 have k0 : (w3.setCell ⟨w.heap.size + 1 + 1, 5, none⟩ (.int .i64 x.2.2.2.2.1.1)).heap[w.heap.size + 1 + 1]? = some (.cells #[.slice a0 x.1.1.length c0, .slice b0 x.1.2.length d0, .slice a1 x.2.1.length c1, .int .i64 x.2.2.1, .int .i64 x.2.2.2.1, .int .i64 x.2.2.2.2.1.1, .int .i64 0, .slice none 0 0, .slice none 0 0] 41 (0, 0)) := heap_setCell_same _ (w.heap.size + 1 + 1) 5 _ _ (.int .i64 x.2.2.2.2.1.1) X2
 have k1 : ((w3.setCell ⟨w.heap.size + 1 + 1, 5, none⟩ (.int .i64 x.2.2.2.2.1.1)).setCell ⟨w.heap.size + 1 + 1, 6, none⟩ (.int .i64 x.2.2.2.2.1.2.1)).heap[w.heap.size + 1 + 1]? = some (.cells #[.slice a0 x.1.1.length c0, .slice b0 x.1.2.length d0, .slice a1 x.2.1.length c1, .int .i64 x.2.2.1, .int .i64 x.2.2.2.1, .int .i64 x.2.2.2.2.1.1, .int .i64 x.2.2.2.2.1.2.1, .slice none 0 0, .slice none 0 0] 41 (0, 0)) := heap_setCell_same _ (w.heap.size + 1 + 1) 6 _ _ (.int .i64 x.2.2.2.2.1.2.1) k0
 have k2 : (((w3.setCell ⟨w.heap.size + 1 + 1, 5, none⟩ (.int .i64 x.2.2.2.2.1.1)).setCell ⟨w.heap.size + 1 + 1, 6, none⟩ (.int .i64 x.2.2.2.2.1.2.1)).setCell ⟨w.heap.size + 1 + 1, 7, none⟩ (.slice a4 x.2.2.2.2.1.2.2.length c4)).heap[w.heap.size + 1 + 1]? = some (.cells #[.slice a0 x.1.1.length c0, .slice b0 x.1.2.length d0, .slice a1 x.2.1.length c1, .int .i64 x.2.2.1, .int .i64 x.2.2.2.1, .int .i64 x.2.2.2.2.1.1, .int .i64 x.2.2.2.2.1.2.1, .slice a4 x.2.2.2.2.1.2.2.length c4, .slice none 0 0] 41 (0, 0)) := heap_setCell_same _ (w.heap.size + 1 + 1) 7 _ _ (.slice a4 x.2.2.2.2.1.2.2.length c4) k1
 have qn0 := (zAP (g := w.heap.size + 1 + 1) (o := 7) (v := .slice a4 x.2.2.2.2.1.2.2.length c4) (zAP (g := w.heap.size + 1 + 1) (o := 6) (v := .int .i64 x.2.2.2.2.1.2.1) (zAP (g := w.heap.size + 1 + 1) (o := 5) (v := .int .i64 x.2.2.2.2.1.1) X0 (by omega)) (by omega)) (by omega))
 have qn1 := (zAP (g := w.heap.size + 1 + 1) (o := 7) (v := .slice a4 x.2.2.2.2.1.2.2.length c4) (zAP (g := w.heap.size + 1 + 1) (o := 6) (v := .int .i64 x.2.2.2.2.1.2.1) (zAP (g := w.heap.size + 1 + 1) (o := 5) (v := .int .i64 x.2.2.2.2.1.1) X1 (by omega)) (by omega)) (by omega))
 have qb1 : Below w.heap.size w (((w3.setCell ⟨w.heap.size + 1 + 1, 5, none⟩ (.int .i64 x.2.2.2.2.1.1)).setCell ⟨w.heap.size + 1 + 1, 6, none⟩ (.int .i64 x.2.2.2.2.1.2.1)).setCell ⟨w.heap.size + 1 + 1, 7, none⟩ (.slice a4 x.2.2.2.2.1.2.2.length c4)) := (zAq (zAq (zAq B (by omega)) (by omega)) (by omega))
 have qo0 : zAB.own (((w3.setCell ⟨w.heap.size + 1 + 1, 5, none⟩ (.int .i64 x.2.2.2.2.1.1)).setCell ⟨w.heap.size + 1 + 1, 6, none⟩ (.int .i64 x.2.2.2.2.1.2.1)).setCell ⟨w.heap.size + 1 + 1, 7, none⟩ (.slice a4 x.2.2.2.2.1.2.2.length c4)) _ _ _ := (zAl (zAl (zAl O0 (fun h => by have := h.1; omega)) (fun h => by have := h.1; omega)) (fun h => by have := h.1; omega))
 have qo1 : zBX.own (((w3.setCell ⟨w.heap.size + 1 + 1, 5, none⟩ (.int .i64 x.2.2.2.2.1.1)).setCell ⟨w.heap.size + 1 + 1, 6, none⟩ (.int .i64 x.2.2.2.2.1.2.1)).setCell ⟨w.heap.size + 1 + 1, 7, none⟩ (.slice a4 x.2.2.2.2.1.2.2.length c4)) _ _ _ := (zAl (zAl (zAl O1 (fun h => by have := h.1; omega)) (fun h => by have := h.1; omega)) (fun h => by have := h.1; omega))
 have qo4 : zAS.own (((w3.setCell ⟨w.heap.size + 1 + 1, 5, none⟩ (.int .i64 x.2.2.2.2.1.1)).setCell ⟨w.heap.size + 1 + 1, 6, none⟩ (.int .i64 x.2.2.2.2.1.2.1)).setCell ⟨w.heap.size + 1 + 1, 7, none⟩ (.slice a4 x.2.2.2.2.1.2.2.length c4)) _ _ _ := (zAl (zAl (zAl O4 (fun h => by have := h.1; omega)) (fun h => by have := h.1; omega)) (fun h => by have := h.1; omega))
 have qz1 : w3.heap.size ≤ (((w3.setCell ⟨w.heap.size + 1 + 1, 5, none⟩ (.int .i64 x.2.2.2.2.1.1)).setCell ⟨w.heap.size + 1 + 1, 6, none⟩ (.int .i64 x.2.2.2.2.1.2.1)).setCell ⟨w.heap.size + 1 + 1, 7, none⟩ (.slice a4 x.2.2.2.2.1.2.2.length c4)).heap.size := by simp
 have qz2 : (((w3.setCell ⟨w.heap.size + 1 + 1, 5, none⟩ (.int .i64 x.2.2.2.2.1.1)).setCell ⟨w.heap.size + 1 + 1, 6, none⟩ (.int .i64 x.2.2.2.2.1.2.1)).setCell ⟨w.heap.size + 1 + 1, 7, none⟩ (.slice a4 x.2.2.2.2.1.2.2.length c4)).heap.size ≤ w3.heap.size := by simp
 clear X0 X1 X2 B O0 O1 O4 k0 k1
 generalize (((w3.setCell ⟨w.heap.size + 1 + 1, 5, none⟩ (.int .i64 x.2.2.2.2.1.1)).setCell ⟨w.heap.size + 1 + 1, 6, none⟩ (.int .i64 x.2.2.2.2.1.2.1)).setCell ⟨w.heap.size + 1 + 1, 7, none⟩ (.slice a4 x.2.2.2.2.1.2.2.length c4)) = u3 at qn0 qn1 k2 qb1 qz1 qz2 qo0 qo1 qo4 ⊢
 have X0 := qn0
 have X1 := qn1
 have X2 := k2
 have B := qb1
 have O0 := qo0
 have O1 := qo1
 have O4 := qo4
 have za2 := qz1
 have zb2 := qz2
 clear qn0 qn1 k2 qb1 qz1 qz2 qo0 qo1 qo4
 refine (C5.out _ B).mono ?_
 rintro e w4 ⟨a5, c5, rfl, mm⟩
 have hs5 := mm.2.size
 replace B := zAb B mm.2
 replace X0 := zAa mm.2 X0
 replace X1 := zAa mm.2 X1
 replace X2 := zAa mm.2 X2
 replace O0 := zDs O0 mm.2 (by omega)
 replace O1 := zDs O1 mm.2 (by omega)
 replace O4 := zDs O4 mm.2 (by omega)
 have O5 := mm.1
 clear mm C5
 obtain ⟨p0, p1, p2, p3, p4, p5, p6, p7, p8⟩ := zAc X0
 obtain ⟨y0, y1, y2, y3, y4, y5, y6, y7, y8⟩ := zAc X2
 obtain ⟨f0, f1, f2, f3, f4, f5, f6, f7, f8⟩ := zAr X2
 obtain ⟨z0, z1, z2, z3, z4, z5, z6, z7, z8⟩ := zAc X1
 obtain ⟨g0, g1, g2, g3, g4, g5, g6, g7, g8⟩ := zAr X1
 have HS : Hid _ := And.intro X0 (And.intro X1 (And.intro X2 (And.intro B (And.intro O0 (And.intro O1 (And.intro O4 (O5)))))))
 clear X0 X1 X2 B O0 O1 O4 O5
 go_wp2
 clear p0 p1 p2 p3 p4 p5 p6 p7 p8 y0 y1 y2 y3 y4 y5 y6 y7 y8 f0 f1 f2 f3 f4 f5 f6 f7 f8 z0 z1 z2 z3 z4 z5 z6 z7 z8 g0 g1 g2 g3 g4 g5 g6 g7 g8
 obtain ⟨X0, X1, X2, B, O0, O1, O4, O5⟩ := HS.out
 clear HS
 have k0 : (w4.setCell ⟨w.heap.size + 1 + 1, 8, none⟩ (.slice a5 x.2.2.2.2.2.length c5)).heap[w.heap.size + 1 + 1]? = some (.cells #[.slice a0 x.1.1.length c0, .slice b0 x.1.2.length d0, .slice a1 x.2.1.length c1, .int .i64 x.2.2.1, .int .i64 x.2.2.2.1, .int .i64 x.2.2.2.2.1.1, .int .i64 x.2.2.2.2.1.2.1, .slice a4 x.2.2.2.2.1.2.2.length c4, .slice a5 x.2.2.2.2.2.length c5] 41 (0, 0)) := heap_setCell_same _ (w.heap.size + 1 + 1) 8 _ _ (.slice a5 x.2.2.2.2.2.length c5) X2
 have V := zAV (y0 := .slice a0 x.1.1.length c0) (y1 := .slice b0 x.1.2.length d0) (y2 := .slice a1 x.2.1.length c1) (y3 := .int .i64 x.2.2.1) (y4 := .int .i64 x.2.2.2.1) (y5 := .int .i64 x.2.2.2.2.1.1) (y6 := .int .i64 x.2.2.2.2.1.2.1) (y7 := .slice a4 x.2.2.2.2.1.2.2.length c4) (y8 := .slice a5 x.2.2.2.2.2.length c5) (zAP (g := w.heap.size + 1 + 1) (o := 8) (v := .slice a5 x.2.2.2.2.2.length c5) X1 (by omega))
 obtain ⟨r0, r1, r2, r3, r4, r5, r6, r7, r8⟩ := zAc V
 obtain ⟨i2, i3⟩ := HI.out
 refine bodyPost_ret (v := .agg #[.slice a0 x.1.1.length c0, .slice b0 x.1.2.length d0, .slice a1 x.2.1.length c1, .int .i64 x.2.2.1, .int .i64 x.2.2.2.1, .int .i64 x.2.2.2.2.1.1, .int .i64 x.2.2.2.2.1.2.1, .slice a4 x.2.2.2.2.1.2.2.length c4, .slice a5 x.2.2.2.2.2.length c5]) (by simp [results, Tryz.results7, go_sem, r0, r1, r2, r3, r4, r5, r6, r7, r8]) rfl ⟨[.slice a0 x.1.1.length c0, .slice b0 x.1.2.length d0, .slice a1 x.2.1.length c1, .int .i64 x.2.2.1, .int .i64 x.2.2.2.1, .int .i64 x.2.2.2.2.1.1, .int .i64 x.2.2.2.2.1.2.1, .slice a4 x.2.2.2.2.1.2.2.length c4, .slice a5 x.2.2.2.2.2.length c5], rfl, zCo (S0 := rng u0.heap.size w1.heap.size) (S1 := rng u1.heap.size w2.heap.size) (S4 := rng u2.heap.size w3.heap.size) (S5 := rng u3.heap.size w4.heap.size) i2 i3 ?_ ?_ ?_ ?_ (zCb (by omega) (by simp <;> omega)) (zCb (by omega) (by simp <;> omega)) (zCb (by omega) (by simp <;> omega)) (zCb (by omega) (by simp <;> omega)) (zC1 (.inl (by omega))) (zC1 (.inl (by omega))) (zC1 (.inl (by omega))) (zC1 (.inl (by omega))) (zC1 (.inl (by omega))) (zC1 (.inl (by omega))), ?_⟩
 ·exact (zAl (zAl (zAl (zAl (zAl (zAl (zAl (zAl (zAl (zAl O0 (fun h => by have := h.1; omega)) (fun h => by have := h.1; omega)) (fun h => by have := h.1; omega)) (fun h => by have := h.1; omega)) (fun h => by have := h.1; omega)) (fun h => by have := h.1; omega)) (fun h => by have := h.1; omega)) (fun h => by have := h.1; omega)) (fun h => by have := h.1; omega)) (fun h => by have := h.1; omega))
 ·exact (zAl (zAl (zAl (zAl (zAl (zAl (zAl (zAl (zAl (zAl O1 (fun h => by have := h.1; omega)) (fun h => by have := h.1; omega)) (fun h => by have := h.1; omega)) (fun h => by have := h.1; omega)) (fun h => by have := h.1; omega)) (fun h => by have := h.1; omega)) (fun h => by have := h.1; omega)) (fun h => by have := h.1; omega)) (fun h => by have := h.1; omega)) (fun h => by have := h.1; omega))
 ·exact (zAl (zAl (zAl (zAl (zAl (zAl (zAl (zAl (zAl (zAl O4 (fun h => by have := h.1; omega)) (fun h => by have := h.1; omega)) (fun h => by have := h.1; omega)) (fun h => by have := h.1; omega)) (fun h => by have := h.1; omega)) (fun h => by have := h.1; omega)) (fun h => by have := h.1; omega)) (fun h => by have := h.1; omega)) (fun h => by have := h.1; omega)) (fun h => by have := h.1; omega))
 ·exact (zAl (zAl (zAl (zAl (zAl (zAl (zAl (zAl (zAl (zAl O5 (fun h => by have := h.1; omega)) (fun h => by have := h.1; omega)) (fun h => by have := h.1; omega)) (fun h => by have := h.1; omega)) (fun h => by have := h.1; omega)) (fun h => by have := h.1; omega)) (fun h => by have := h.1; omega)) (fun h => by have := h.1; omega)) (fun h => by have := h.1; omega)) (fun h => by have := h.1; omega))
 ·exact (zAq (zAq (zAq (zAq (zAq (zAq (zAq (zAq (zAq (zAq B (by omega)) (by omega)) (by omega)) (by omega)) (by omega)) (by omega)) (by omega)) (by omega)) (by omega)) (by omega))
theorem zCy {w : World} {cs : List Value} {x : zAE} (h : zAn.rd w cs x) : ∃ (a0 : Option Addr) (c0 : Nat) (b0 : Option Addr) (d0 : Nat) (a1 : Option Addr) (c1 : Nat) (a4 : Option Addr) (c4 : Nat) (a5 : Option Addr) (c5 : Nat), cs = [.slice a0 x.1.1.length c0, .slice b0 x.1.2.length d0, .slice a1 x.2.1.length c1, .int .i64 x.2.2.1, .int .i64 x.2.2.2.1, .int .i64 x.2.2.2.2.1.1, .int .i64 x.2.2.2.2.1.2.1, .slice a4 x.2.2.2.2.1.2.2.length c4, .slice a5 x.2.2.2.2.2.length c5] := by
 obtain ⟨v0, v1, v2, v5, v6, v7, v8, rfl, r0, r1, -, -, r4, r5⟩ := zCs h
 obtain ⟨a0, c0, b0, d0, e0, -⟩ := zAH r0
 simp only [List.cons.injEq, and_true] at e0
 obtain ⟨rfl, rfl⟩ := e0
 obtain ⟨a1, c1, e1, -⟩ := r1
 simp only [List.cons.injEq, and_true] at e1
 obtain rfl := e1
 obtain ⟨a4, c4, e4, -⟩ := zAL r4
 simp only [List.cons.injEq, and_true] at e4
 obtain ⟨rfl, rfl, rfl⟩ := e4
 obtain ⟨a5, c5, e5, -⟩ := r5
 simp only [List.cons.injEq, and_true] at e5
 obtain rfl := e5
 exact ⟨a0, c0, b0, d0, a1, c1, a4, c4, a5, c5, rfl⟩
theorem opens_core : zEb Tryz.prog 30 zAn :=
 zCS Tryz.underlying30 (by kernel_rfl) (zBq rfl (by kernel_rfl) zJP (zBq rfl (by kernel_rfl) zMZ (zBq rfl (by kernel_rfl) zBL (zBq rfl (by kernel_rfl) zBL (zBq rfl (by kernel_rfl) zIT (zD5 rfl (by kernel_rfl) zE2))))))
end Go.Proofs.YtoihjejenjcokaaGreatDoor
