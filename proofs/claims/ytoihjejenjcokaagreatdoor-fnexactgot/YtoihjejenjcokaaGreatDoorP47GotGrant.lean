import Derived.Test.YtoihjejenjcokaaGreatDoorP00Box
import Derived.Test.YtoihjejenjcokaaGreatDoorP46GotWait
import Derived.Test.YtoihjejenjcokaaGreatDoorP28CoreDid
import Derived.Deep.RegionHeld3
namespace Go.Proofs.YtoihjejenjcokaaGreatDoor
open Go.ChangeShapes Go.WideShapes Go.ChangeAt Go.RowKit
set_option linter.unusedVariables false
noncomputable def grI (x : zAE) (id : Int) (u : zAU) : zAE × List zB5 × Int := if zEZ x u = true then (if (zB1 x.1 u).2 = true then (zJ3 (zDq x u) u, [msg 2 id 4 10 u.1 [] 0], 2) else (x, [], 0)) else (x, [], 0)
theorem gr_yes {x : zAE} {u : zAU} (h : zAZ x = true) (hw : zEZ x u = true) (hf : (zB1 x.1 u).2 = true) : zBi isL u = true ∧ zAZ (zDq x u) = true ∧ zBv (toS (zDq x u)) = zBv (toS x) ∧ x.2.2.1 < (x.2.1.length : Int) ∧ zCl u.2.1 (zCV (zBv (toS x))) = 0 := by
 obtain ⟨g1, g2, g3, g4, g5, -⟩ := zF1 (id := 0) (m := msg 0 0 0 11 u.1 u.2.2 u.2.1) h rfl hw hf
 exact ⟨g1, g2, g3, g4, g5⟩
theorem grant_eq {x : zAE} {id : Int} {m : zB5} (h : zAZ x = true) (hm : zBm m = 11) : zBO (toS x) id m = (toS (grI x id (zAt m, zB9 m, zBJ m)).1, (grI x id (zAt m, zB9 m, zBJ m)).2.1, (grI x id (zAt m, zB9 m, zBJ m)).2.2) := by
 unfold grI
 cases hw : zEZ x (zAt m, zB9 m, zBJ m)
 ·rw [zJ4 h hm hw]; rfl
 ·cases hf : (zB1 x.1 (zAt m, zB9 m, zBJ m)).2
  ·rw [zHx h hm hw hf]; rfl
  ·rw [(zF1 (id := id) h hm hw hf).2.2.2.2.2]; rfl
theorem grEndA {S T : zAX} {w W W2 wd : World} {y : zAE} {m : zB5} {cs cm vs : List Value} {k : Int} {r : Nat} (B : Below w.heap.size w W) (Q : Below W.heap.size W W2) (DO : zAn.own wd (fun j => T j ∨ (W2.heap.size ≤ j ∧ j < wd.heap.size)) cs y) (DC : Chg T W2 wd) (hT : ∀ j, T j → S j ∨ w.heap.size ≤ j) (hTl : ∀ j, T j → j < W.heap.size) (hm : zBy.own wd (fun _ => False) cm m) (hr : w.heap.size ≤ r) (hrW : r < W.heap.size) (hTr : ¬ T r) :
    zEI S w y [m] k (.returned (.tuple #[zAM cs, .slice (some ⟨wd.heap.size, 0, none⟩) 1 1, .int .i64 k])) ((zAo wd r 0 vs).alloc (.cells cm.toArray 46)) := by
 have b1 := B.size
 have b2 := Q.size
 have b3 := DC.size
 have BQ := zAb B Q
 refine zEF (T := fun j => T j ∨ (W2.heap.size ≤ j ∧ j < wd.heap.size)) (U := fun _ => False) ⟨DC.os.trans BQ.os, DC.tape.trans BQ.tape, DC.output.trans BQ.output, by omega, fun j hj hn => (DC.block j (by omega) (fun q => by rcases hT j q with q | q; exact hn q; omega)).trans (BQ.block j hj)⟩ DO hm (fun _ _ h => h) (fun j q => ?_) (fun j q => q.elim) hr (fun q => ?_) (fun q => q)
 ·rcases q with q | q
  ·exact ⟨hT j q, by have := hTl j q; omega⟩
  ·exact ⟨.inr (by omega), q.2⟩
 ·rcases q with q | q
  ·exact hTr q
  ·omega
theorem grEndC {S T : zAX} {w W W2 wd : World} {y : zAE} {m : zB5} {cs cm vs : List Value} {k : Int} {r : Nat} (B : Below w.heap.size w W) (Q : Below W.heap.size W W2) (DO : zAn.own wd (fun j => T j ∨ (W2.heap.size ≤ j ∧ j < wd.heap.size)) cs y) (DC : Chg T W2 wd) (hT : ∀ j, T j → S j ∨ w.heap.size ≤ j) (hTl : ∀ j, T j → j < W.heap.size) (hm : zBy.own wd (fun _ => False) cm m) (hr : w.heap.size ≤ r) (hrW : r < W.heap.size) (hTr : ¬ T r) :
    zEI S w y [m] k (.returned (.tuple #[zAM cs, .slice (some ⟨wd.heap.size, 0, none⟩) 1 1, .int .i64 k])) (zAo (wd.alloc (.cells cm.toArray 46)) r 0 vs) := by
 have b1 := B.size
 have b2 := Q.size
 have b3 := DC.size
 have BQ := zAb B Q
 refine zDE (T := fun j => T j ∨ (W2.heap.size ≤ j ∧ j < wd.heap.size)) (U := fun _ => False) ⟨DC.os.trans BQ.os, DC.tape.trans BQ.tape, DC.output.trans BQ.output, by omega, fun j hj hn => (DC.block j (by omega) (fun q => by rcases hT j q with q | q; exact hn q; omega)).trans (BQ.block j hj)⟩ DO hm (fun _ _ h => h) (fun j q => ?_) (fun j q => q.elim) hr (fun q => ?_) (fun q => q) (by omega)
 ·rcases q with q | q
  ·exact ⟨hT j q, by have := hTl j q; omega⟩
  ·exact ⟨.inr (by omega), q.2⟩
 ·rcases q with q | q
  ·exact hTr q
  ·omega
theorem grEndB {S T : zAX} {w W W2 wd : World} {y : zAE} {m : zB5} {cs cm vs : List Value} {k : Int} {r : Nat} (B : Below w.heap.size w W) (Q : Below W.heap.size W W2) (DO : zAn.own wd (fun j => T j ∨ ((W2.alloc (.cells cm.toArray 46)).heap.size ≤ j ∧ j < wd.heap.size)) cs y) (DC : Chg T (W2.alloc (.cells cm.toArray 46)) wd) (hT : ∀ j, T j → S j ∨ w.heap.size ≤ j) (hTl : ∀ j, T j → j < W.heap.size) (hm : zBy.own W2 (fun _ => False) cm m) (hr : w.heap.size ≤ r) (hrW : r < W.heap.size) (hTr : ¬ T r) :
    zEI S w y [m] k (.returned (.tuple #[zAM cs, .slice (some ⟨W2.heap.size, 0, none⟩) 1 1, .int .i64 k])) (zAo wd r 0 vs) := by
 have b1 := B.size
 have b2 := Q.size
 have al := zAp W2 (.cells cm.toArray 46)
 have b3 := DC.size
 have BQ := zAb (zAb B Q) (zAf W2 (.cells cm.toArray 46))
 have OM := zAO (zFJ (e := 46) (R := zBy) (by decide) hm (fun j q => q.elim)) DC (fun j a b => by have := hTl j b; rcases a with a | a; exact a; omega)
 refine zCg (S' := fun j => T j ∨ j = W2.heap.size) (W := W2.alloc (.cells cm.toArray 46)) (zA9 BQ) (fun j q => ?_) (zAn.rd_len (zAn.own_rd DO)) (zDL DO OM (fun j q => ?_) (fun j q => ?_) (fun j a b => ?_)) (fun j q => ?_) (DC.mono fun j q => .inl q) hr (by omega) (fun q => ?_)
 ·rcases q with q | q
  ·exact hT j q
  ·exact .inr (by omega)
 ·rcases q with q | q
  ·exact .inl (.inl q)
  ·exact .inr q
 ·rcases q with q | q
  ·exact q.elim
  ·exact .inl (.inr q)
 ·rcases b with b | b
  ·exact b
  ·rcases a with a | a
   ·have := hTl j a; omega
   ·omega
 ·rcases q with q | q
  ·have := hTl j q; omega
  ·omega
 ·rcases q with q | q
  ·exact hTr q
  ·omega
set_option maxHeartbeats 16000000 in
set_option maxRecDepth 20000 in
theorem zIG (S : zAX) (cs us : List Value) (x : zAE) (id : Int) (u : zAU) (w : World) (hh : Hold w) (ho : zAn.own w S cs x) (hS : ∀ k, S k → k < w.heap.size) (hu : zAS.rd w us u) (hl : u.2.2.length ≤ 1048576) (hk : zAZ x = true) (hid : zBk id) :
    Calls Tryz.prog 75 #[zAM cs, .int .i64 id, zAM us] w fun e' w' => zEI S w (grI x id u).1 (grI x id u).2.1 (grI x id u).2.2 e' w' := by
 have HSL : Hid (∀ (ds : List Value) (W : World), Below w.heap.size w W → zAn.own W S ds x → Calls Tryz.prog 34 #[zAM ds] W fun e w' => zEI S W x [] 0 e w') := fun ds W hb ho => zDY S ds x W ho (fun k q => Nat.lt_of_lt_of_le (hS k q) hb.size)
 have hok : OkC isL zAJ x.1 := (zB4 hk).ok
 have hgr := gr_yes (x := x) (u := u) hk
 obtain ⟨y9, hy9⟩ : ∃ y9, y9 = grI x id u := ⟨_, rfl⟩
 rw [← hy9]
 unfold grI at hy9
 have HWT : Hid (∀ (ds vs : List Value) (W : World), Below w.heap.size w W → zAn.rd W ds x → zAS.rd W vs u → Calls Tryz.prog 104 #[zAM ds, zAM vs] W fun e w' => e = .returned (.bool (zEZ x u)) ∧ Below W.heap.size W w') := fun ds vs W hb h1 h2 => zKJ ds vs x u W (hh.goes hb) h1 h2 hk
 obtain ⟨ua, uc, rfl, iu1, iu2, -, -, -⟩ := zAL hu
 have HU : Hid (∀ W, Below w.heap.size w W → zAS.rd W [.int .i64 u.1, .int .i64 u.2.1, .slice ua u.2.2.length uc] u) := fun W hb => zAN hu hb
 obtain ⟨v0, v1, v2, v5, v6, v7, v8, S0, S1, S4, S5, rfl, i2, i3, o0, o1, o4, o5, sb0, sb1, sb4, sb5, d01, d04, d05, d14, d15, d45⟩ := zBd ho
 have r0 := zAB.own_rd o0
 obtain ⟨a0, c0, b0, d0, e0, -⟩ := zAH r0
 simp only [List.cons.injEq, and_true] at e0
 obtain ⟨rfl, rfl⟩ := e0
 obtain ⟨a1, c1, e1, -⟩ := zBX.own_rd o1
 simp only [List.cons.injEq, and_true] at e1
 obtain rfl := e1
 obtain ⟨a4, c4, e4, ih1, ih2, -, -, -⟩ := zAL (zAS.own_rd o4)
 simp only [List.cons.injEq, and_true] at e4
 obtain ⟨rfl, rfl, rfl⟩ := e4
 obtain ⟨a5, c5, e5, -⟩ := zA5.own_rd o5
 simp only [List.cons.injEq, and_true] at e5
 obtain rfl := e5
 have HO : Hid (∀ W, Below w.heap.size w W → zAn.own W S [.slice a0 x.1.1.length c0, .slice b0 x.1.2.length d0, .slice a1 x.2.1.length c1, .int .i64 x.2.2.1, .int .i64 x.2.2.2.1, .int .i64 x.2.2.2.2.1.1, .int .i64 x.2.2.2.2.1.2.1, .slice a4 x.2.2.2.2.1.2.2.length c4, .slice a5 x.2.2.2.2.2.length c5] x) := fun W hb => zAn.own_keep ho (zAh hb)
 have HFL : Hid (∀ W, Below w.heap.size w W → Calls Tryz.prog 105 #[.agg #[.slice a0 x.1.1.length c0, .slice b0 x.1.2.length d0], .agg #[.int .i64 u.1, .int .i64 u.2.1, .slice ua u.2.2.length uc]] W fun e w' => ∃ ds, e = .returned (.tuple #[zAM ds, .bool (zB1 x.1 u).2]) ∧ zAY zAB W w' ds (zB1 x.1 u).1) := fun W hb => zFV [.slice a0 x.1.1.length c0, .slice b0 x.1.2.length d0] [.int .i64 u.1, .int .i64 u.2.1, .slice ua u.2.2.length uc] x.1 u W (zAN r0 hb) (HU.out W hb) hl
 have HDI : Hid (zEZ x u = true → (zB1 x.1 u).2 = true → ∀ (T : zAX) (ds : List Value) (W : World), Below w.heap.size w W → zAn.own W T ds (zDq x u) → (∀ k, T k → k < W.heap.size) → Calls Tryz.prog 106 #[zAM ds, .agg #[.int .i64 u.1, .int .i64 u.2.1, .slice ua u.2.2.length uc]] W fun e w' => ∃ es, e = .returned (zAM es) ∧ zAn.own w' (fun k => T k ∨ (W.heap.size ≤ k ∧ k < w'.heap.size)) es (zJ3 (zDq x u) u) ∧ Chg T W w') := fun q1 q2 T ds W hb h1 h2 => by
  obtain ⟨g1, g2, g3, g4, g5⟩ := hgr q1 q2
  exact zN9 T ds [.int .i64 u.1, .int .i64 u.2.1, .slice ua u.2.2.length uc] (zDq x u) u W h1 h2 (HU.out W hb) g2 g4 g1 (by rw [g3]; exact g5)
 have HSS : Hid (∀ k, S k → k < w.heap.size) := hS
 have HIN : Hid _ := And.intro i2 i3
 have HOW : Hid _ := And.intro o1 (And.intro o4 (And.intro o5 (And.intro sb1 (And.intro sb4 (And.intro sb5 (And.intro d14 (And.intro d15 d45)))))))
 have HFC : Hid (zDq x u = ((zB1 x.1 u).1, x.2.1, x.2.2.1, 0, x.2.2.2.2.1, x.2.2.2.2.2)) := rfl
 generalize hwb : zEZ x u = wb at hy9 HWT HDI
 generalize zJ3 (zDq x u) u = n0 at hy9 HDI
 generalize zDq x u = xf at HDI HFC
 generalize zB1 x.1 u = fc at hy9 HFL HDI HFC
 obtain ⟨fc, fb⟩ := fc
 simp only at hy9 HFL HDI HFC
 have HY9 : Hid _ := hy9
 clear hgr hwb hy9 ho hS r0 o0 o1 o4 o5 sb0 sb1 sb4 sb5 d01 d04 d05 d14 d15 d45 i2 i3 ih1 ih2 hk hh hok hl hu iu2
 obtain ⟨y1, y2, y3⟩ := y9
 obtain ⟨c, p, at_, ph, h, t⟩ := x
 simp only at *
 rw [show zAM [.slice a0 c.1.length c0, .slice b0 c.2.length d0, .slice a1 p.length c1, .int .i64 at_, .int .i64 ph, .int .i64 h.1, .int .i64 h.2.1, .slice a4 h.2.2.length c4, .slice a5 t.length c5] = .agg #[.slice a0 c.1.length c0, .slice b0 c.2.length d0, .slice a1 p.length c1, .int .i64 at_, .int .i64 ph, .int .i64 h.1, .int .i64 h.2.1, .slice a4 h.2.2.length c4, .slice a5 t.length c5] from rfl]
 rw [show zAM [.int .i64 u.1, .int .i64 u.2.1, .slice ua u.2.2.length uc] = .agg #[.int .i64 u.1, .int .i64 u.2.1, .slice ua u.2.2.length uc] from rfl]
 skip
 have B := Below.refl w.heap.size w
 go_enter Tryz.func75, Tryz.ntmps75
 go_wp2_with fail
 generalize hu1w : w.alloc _ = u1w
 have X := boxH hu1w
 have bz := boxB hu1w
 have zX := boxL hu1w
 clear hu1w
 replace B := zAb B bz
 clear bz
 have zXa := Nat.le_of_eq zX
 have zXb := Nat.le_of_eq zX.symm
 clear zX
 generalize hu2w : u1w.alloc _ = u2w
 have V := boxH hu2w
 have bz := boxB hu2w
 have zV := boxL hu2w
 clear hu2w
 rw [show u1w.heap.size = w.heap.size + 1 from by omega] at V
 replace B := zAb B bz
 replace X := zAa bz X
 clear bz
 have zVa := Nat.le_of_eq zV
 have zVb := Nat.le_of_eq zV.symm
 clear zV
 generalize hu3w : u2w.alloc _ = u3w
 have R := boxH hu3w
 have bz := boxB hu3w
 have zR := boxL hu3w
 clear hu3w
 rw [show u2w.heap.size = w.heap.size + 1 + 1 from by omega] at R
 replace B := zAb B bz
 replace X := zAa bz X
 replace V := zAa bz V
 clear bz
 have zRa := Nat.le_of_eq zR
 have zRb := Nat.le_of_eq zR.symm
 clear zR
 refine (HWT.out [.slice a0 c.1.length c0, .slice b0 c.2.length d0, .slice a1 p.length c1, .int .i64 at_, .int .i64 ph, .int .i64 h.1, .int .i64 h.2.1, .slice a4 h.2.2.length c4, .slice a5 t.length c5] [.int .i64 u.1, .int .i64 u.2.1, .slice ua u.2.2.length uc] _ B (zAn.own_rd (HO.out _ B)) (HU.out _ B)).mono ?_
 rintro e u4w ⟨rfl, bq⟩
 have tu4w : u3w.heap.size ≤ u4w.heap.size := bq.size
 replace B := zAb B bq
 replace X := zAa bq X
 replace V := zAa bq V
 replace R := zAa bq R
 clear bq
 cases wb
 ·skip
  obtain ⟨Xc0, Xc1, Xc2, Xc3, Xc4, Xc5, Xc6, Xc7, Xc8⟩ := zAc X
  have Xlt := (Array.getElem?_eq_some_iff.1 X).1
  obtain ⟨Vc0, Vc1, Vc2⟩ := zAg V
  have Vlt := (Array.getElem?_eq_some_iff.1 V).1
  obtain ⟨Rc0, Rc1, Rc2, Rc3, Rc4, Rc5, Rc6, Rc7, Rc8⟩ := zAc R
  have Rlt := (Array.getElem?_eq_some_iff.1 R).1
  go_wp2_with fail
  clear Xc0 Xc1 Xc2 Xc3 Xc4 Xc5 Xc6 Xc7 Xc8 Xlt Vc0 Vc1 Vc2 Vlt Rc0 Rc1 Rc2 Rc3 Rc4 Rc5 Rc6 Rc7 Rc8 Rlt
  have hst := HSL.out [.slice a0 c.1.length c0, .slice b0 c.2.length d0, .slice a1 p.length c1, .int .i64 at_, .int .i64 ph, .int .i64 h.1, .int .i64 h.2.1, .slice a4 h.2.2.length c4, .slice a5 t.length c5] _ B (HO.out _ B)
  obtain ⟨n1, hn0⟩ : ∃ n1 : zAE, n1 = (c, p, at_, ph, h, t) := ⟨_, rfl⟩
  obtain ⟨m0, hm0⟩ : ∃ m0 : List zB5, m0 = [] := ⟨_, rfl⟩
  obtain ⟨k0, hk0⟩ : ∃ k0 : Int, k0 = 0 := ⟨_, rfl⟩
  rw [← hn0, ← hm0, ← hk0] at hst
  have hye := HY9.out
  rw [if_neg (by decide)] at hye
  simp only [Prod.mk.injEq] at hye
  obtain ⟨e1, e2, e3⟩ := hye
  have f1 := hn0.trans e1.symm
  have f2 := hm0.trans e2.symm
  have f3 := hk0.trans e3.symm
  subst f1
  subst f2
  subst f3
  clear e1 e2 e3
  clear hn0 hm0 hk0
  refine (hst).mono ?_
  rintro e wd hq
  obtain ⟨d0, d1, d2, d3, d4, d5, d6, d7, d8, d9, sa, sc, rfl, DO, DC⟩ := zCa hq
  clear hq
  have szd := DC.size
  have bsz := B.size
  have R2 := (DC.block _ (Array.getElem?_eq_some_iff.1 R).1 (fun q => by have := HSS.out _ q; omega)).trans R
  obtain ⟨z0, z1, z2, z3, z4, z5, z6, z7, z8⟩ := zAc R2
  obtain ⟨zf0, zf1, zf2, zf3, zf4, zf5, zf6, zf7, zf8⟩ := zAr R2
  have zlt := (Array.getElem?_eq_some_iff.1 R2).1
  have rlt := (Array.getElem?_eq_some_iff.1 R).1
  have HZ : Hid _ := And.intro DO (And.intro DC (And.intro R2 B))
  clear DO DC R2 B X V R
  go_wp2
  obtain ⟨DO, DC, R2, B⟩ := HZ.out
  obtain ⟨r0, r1, r2, r3, r4, r5, r6, r7, r8⟩ := zAc (zAV (y0 := .slice d0 n1.1.1.length d1) (y1 := .slice d2 n1.1.2.length d3) (y2 := .slice d4 n1.2.1.length d5) (y3 := .int .i64 n1.2.2.1) (y4 := .int .i64 n1.2.2.2.1) (y5 := .int .i64 n1.2.2.2.2.1.1) (y6 := .int .i64 n1.2.2.2.2.1.2.1) (y7 := .slice d6 n1.2.2.2.2.1.2.2.length d7) (y8 := .slice d8 n1.2.2.2.2.2.length d9) R2)
  have FQ := zCg (vs := [.slice d0 n1.1.1.length d1, .slice d2 n1.1.2.length d3, .slice d4 n1.2.1.length d5, .int .i64 n1.2.2.1, .int .i64 n1.2.2.2.1, .int .i64 n1.2.2.2.2.1.1, .int .i64 n1.2.2.2.2.1.2.1, .slice d6 n1.2.2.2.2.1.2.2.length d7, .slice d8 n1.2.2.2.2.2.length d9]) (k := k0) (r := w.heap.size + 1 + 1) (zA9 (S := S) B) (fun j q => .inl q) rfl DO (fun j q => by have := HSS.out _ q; omega) DC (by omega) rlt (fun q => by have := HSS.out _ q; omega)
  simp only [zA0, zA3, Nat.reduceAdd] at FQ
  clear DO DC R2 B HZ
  exact bodyPost_ret (v := .tuple #[.agg #[.slice d0 n1.1.1.length d1, .slice d2 n1.1.2.length d3, .slice d4 n1.2.1.length d5, .int .i64 n1.2.2.1, .int .i64 n1.2.2.2.1, .int .i64 n1.2.2.2.2.1.1, .int .i64 n1.2.2.2.2.1.2.1, .slice d6 n1.2.2.2.2.1.2.2.length d7, .slice d8 n1.2.2.2.2.2.length d9], .slice sa m0.length sc, .int .i64 k0]) (by simp [results, Tryz.results75, go_sem, r0, r1, r2, r3, r4, r5, r6, r7, r8]) rfl FQ
 ·skip
  obtain ⟨Xc0, Xc1, Xc2, Xc3, Xc4, Xc5, Xc6, Xc7, Xc8⟩ := zAc X
  have Xlt := (Array.getElem?_eq_some_iff.1 X).1
  obtain ⟨Vc0, Vc1, Vc2⟩ := zAg V
  have Vlt := (Array.getElem?_eq_some_iff.1 V).1
  obtain ⟨Rc0, Rc1, Rc2, Rc3, Rc4, Rc5, Rc6, Rc7, Rc8⟩ := zAc R
  have Rlt := (Array.getElem?_eq_some_iff.1 R).1
  go_wp2_with fail
  clear Xc0 Xc1 Xc2 Xc3 Xc4 Xc5 Xc6 Xc7 Xc8 Xlt Vc0 Vc1 Vc2 Vlt Rc0 Rc1 Rc2 Rc3 Rc4 Rc5 Rc6 Rc7 Rc8 Rlt
  refine (HFL.out _ B).mono ?_
  rintro e u5w ⟨ds, rfl, mm⟩
  obtain ⟨na, nb, nc, nd, rfl, -, -, -, -, -, -⟩ := zAH (zAB.own_rd mm.1)
  rw [show zAM [.slice na fc.1.length nb, .slice nc fc.2.length nd] = .agg #[.slice na fc.1.length nb, .slice nc fc.2.length nd] from rfl]
  have P := zAR (R := zAB) mm
  have mb := mm.2
  have tu5w : u4w.heap.size ≤ u5w.heap.size := mb.size
  replace B := zAb B mb
  replace X := zAa mb X
  replace V := zAa mb V
  replace R := zAa mb R
  clear mb mm
  obtain ⟨Xc0, Xc1, Xc2, Xc3, Xc4, Xc5, Xc6, Xc7, Xc8⟩ := zAc X
  have Xlt := (Array.getElem?_eq_some_iff.1 X).1
  obtain ⟨Vc0, Vc1, Vc2⟩ := zAg V
  have Vlt := (Array.getElem?_eq_some_iff.1 V).1
  obtain ⟨Rc0, Rc1, Rc2, Rc3, Rc4, Rc5, Rc6, Rc7, Rc8⟩ := zAc R
  have Rlt := (Array.getElem?_eq_some_iff.1 R).1
  go_upto_region 4 with fail
  clear Xc0 Xc1 Xc2 Xc3 Xc4 Xc5 Xc6 Xc7 Xc8 Xlt Vc0 Vc1 Vc2 Vlt Rc0 Rc1 Rc2 Rc3 Rc4 Rc5 Rc6 Rc7 Rc8 Rlt
  generalize hu6w : u5w.alloc _ = u6w
  have K := boxH hu6w
  have bz := boxB hu6w
  have zK := boxL hu6w
  clear hu6w
  replace B := zAb B bz
  replace X := zAa bz X
  replace V := zAa bz V
  replace R := zAa bz R
  replace P := zA6 P bz
  clear bz
  have zKa := Nat.le_of_eq zK
  have zKb := Nat.le_of_eq zK.symm
  clear zK
  cases fb
  ·skip
   obtain ⟨Xc0, Xc1, Xc2, Xc3, Xc4, Xc5, Xc6, Xc7, Xc8⟩ := zAc X
   have Xlt := (Array.getElem?_eq_some_iff.1 X).1
   obtain ⟨Vc0, Vc1, Vc2⟩ := zAg V
   have Vlt := (Array.getElem?_eq_some_iff.1 V).1
   obtain ⟨Rc0, Rc1, Rc2, Rc3, Rc4, Rc5, Rc6, Rc7, Rc8⟩ := zAc R
   have Rlt := (Array.getElem?_eq_some_iff.1 R).1
   obtain ⟨Kc0, Kc1⟩ := zAx K
   have Klt := (Array.getElem?_eq_some_iff.1 K).1
   go_wp2_with fail
   clear Xc0 Xc1 Xc2 Xc3 Xc4 Xc5 Xc6 Xc7 Xc8 Xlt Vc0 Vc1 Vc2 Vlt Rc0 Rc1 Rc2 Rc3 Rc4 Rc5 Rc6 Rc7 Rc8 Rlt Kc0 Kc1 Klt
   have hst := HSL.out [.slice a0 c.1.length c0, .slice b0 c.2.length d0, .slice a1 p.length c1, .int .i64 at_, .int .i64 ph, .int .i64 h.1, .int .i64 h.2.1, .slice a4 h.2.2.length c4, .slice a5 t.length c5] _ B (HO.out _ B)
   obtain ⟨n1, hn0⟩ : ∃ n1 : zAE, n1 = (c, p, at_, ph, h, t) := ⟨_, rfl⟩
   obtain ⟨m0, hm0⟩ : ∃ m0 : List zB5, m0 = [] := ⟨_, rfl⟩
   obtain ⟨k0, hk0⟩ : ∃ k0 : Int, k0 = 0 := ⟨_, rfl⟩
   rw [← hn0, ← hm0, ← hk0] at hst
   have hye := HY9.out
   rw [if_pos (by first | rfl | trivial), if_neg (by decide)] at hye
   simp only [Prod.mk.injEq] at hye
   obtain ⟨e1, e2, e3⟩ := hye
   have f1 := hn0.trans e1.symm
   have f2 := hm0.trans e2.symm
   have f3 := hk0.trans e3.symm
   subst f1
   subst f2
   subst f3
   clear e1 e2 e3
   clear hn0 hm0 hk0
   refine (hst).mono ?_
   rintro e wd hq
   obtain ⟨d0, d1, d2, d3, d4, d5, d6, d7, d8, d9, sa, sc, rfl, DO, DC⟩ := zCa hq
   clear hq
   have szd := DC.size
   have bsz := B.size
   have R2 := (DC.block _ (Array.getElem?_eq_some_iff.1 R).1 (fun q => by have := HSS.out _ q; omega)).trans R
   obtain ⟨z0, z1, z2, z3, z4, z5, z6, z7, z8⟩ := zAc R2
   obtain ⟨zf0, zf1, zf2, zf3, zf4, zf5, zf6, zf7, zf8⟩ := zAr R2
   have zlt := (Array.getElem?_eq_some_iff.1 R2).1
   have rlt := (Array.getElem?_eq_some_iff.1 R).1
   have HZ : Hid _ := And.intro DO (And.intro DC (And.intro R2 B))
   clear DO DC R2 B X V R K P
   go_wp2
   obtain ⟨DO, DC, R2, B⟩ := HZ.out
   obtain ⟨r0, r1, r2, r3, r4, r5, r6, r7, r8⟩ := zAc (zAV (y0 := .slice d0 n1.1.1.length d1) (y1 := .slice d2 n1.1.2.length d3) (y2 := .slice d4 n1.2.1.length d5) (y3 := .int .i64 n1.2.2.1) (y4 := .int .i64 n1.2.2.2.1) (y5 := .int .i64 n1.2.2.2.2.1.1) (y6 := .int .i64 n1.2.2.2.2.1.2.1) (y7 := .slice d6 n1.2.2.2.2.1.2.2.length d7) (y8 := .slice d8 n1.2.2.2.2.2.length d9) R2)
   have FQ := zCg (vs := [.slice d0 n1.1.1.length d1, .slice d2 n1.1.2.length d3, .slice d4 n1.2.1.length d5, .int .i64 n1.2.2.1, .int .i64 n1.2.2.2.1, .int .i64 n1.2.2.2.2.1.1, .int .i64 n1.2.2.2.2.1.2.1, .slice d6 n1.2.2.2.2.1.2.2.length d7, .slice d8 n1.2.2.2.2.2.length d9]) (k := k0) (r := w.heap.size + 1 + 1) (zA9 (S := S) B) (fun j q => .inl q) rfl DO (fun j q => by have := HSS.out _ q; omega) DC (by omega) rlt (fun q => by have := HSS.out _ q; omega)
   simp only [zA0, zA3, Nat.reduceAdd] at FQ
   clear DO DC R2 B HZ
   exact bodyPost_ret (v := .tuple #[.agg #[.slice d0 n1.1.1.length d1, .slice d2 n1.1.2.length d3, .slice d4 n1.2.1.length d5, .int .i64 n1.2.2.1, .int .i64 n1.2.2.2.1, .int .i64 n1.2.2.2.2.1.1, .int .i64 n1.2.2.2.2.1.2.1, .slice d6 n1.2.2.2.2.1.2.2.length d7, .slice d8 n1.2.2.2.2.2.length d9], .slice sa m0.length sc, .int .i64 k0]) (by simp [results, Tryz.results75, go_sem, r0, r1, r2, r3, r4, r5, r6, r7, r8]) rfl FQ
  ·skip
   obtain ⟨Xc0, Xc1, Xc2, Xc3, Xc4, Xc5, Xc6, Xc7, Xc8⟩ := zAc X
   have Xlt := (Array.getElem?_eq_some_iff.1 X).1
   obtain ⟨Xf0, Xf1, Xf2, Xf3, Xf4, Xf5, Xf6, Xf7, Xf8⟩ := zAr X
   obtain ⟨Vc0, Vc1, Vc2⟩ := zAg V
   have Vlt := (Array.getElem?_eq_some_iff.1 V).1
   obtain ⟨Rc0, Rc1, Rc2, Rc3, Rc4, Rc5, Rc6, Rc7, Rc8⟩ := zAc R
   have Rlt := (Array.getElem?_eq_some_iff.1 R).1
   obtain ⟨Kc0, Kc1⟩ := zAx K
   have Klt := (Array.getElem?_eq_some_iff.1 K).1
   go_upto_region 7 with fail
   clear Xc0 Xc1 Xc2 Xc3 Xc4 Xc5 Xc6 Xc7 Xc8 Xlt Xf0 Xf1 Xf2 Xf3 Xf4 Xf5 Xf6 Xf7 Xf8 Vc0 Vc1 Vc2 Vlt Rc0 Rc1 Rc2 Rc3 Rc4 Rc5 Rc6 Rc7 Rc8 Rlt Kc0 Kc1 Klt
   rw [show ((u6w.setCell ⟨w.heap.size, 0, none⟩ (.slice na fc.1.length nb)).setCell ⟨w.heap.size, 1, none⟩ (.slice nc fc.2.length nd)) = (zAo u6w (w.heap.size) 0 [.slice na fc.1.length nb, .slice nc fc.2.length nd]) from rfl]
   replace V := zAk (g := w.heap.size) (o := 0) (vs := [.slice na fc.1.length nb, .slice nc fc.2.length nd]) V (by omega)
   replace R := zAk (g := w.heap.size) (o := 0) (vs := [.slice na fc.1.length nb, .slice nc fc.2.length nd]) R (by omega)
   replace K := zAk (g := w.heap.size) (o := 0) (vs := [.slice na fc.1.length nb, .slice nc fc.2.length nd]) K (by omega)
   replace P := zAw (g := w.heap.size) (o := 0) (vs := [.slice na fc.1.length nb, .slice nc fc.2.length nd]) P (by omega)
   replace B := zAv (g := w.heap.size) (o := 0) (vs := [.slice na fc.1.length nb, .slice nc fc.2.length nd]) B (by omega)
   replace X : (zAo u6w (w.heap.size) 0 [.slice na fc.1.length nb, .slice nc fc.2.length nd]).heap[w.heap.size]? = some (.cells #[.slice na fc.1.length nb, .slice nc fc.2.length nd, .slice a1 p.length c1, .int .i64 at_, .int .i64 ph, .int .i64 h.1, .int .i64 h.2.1, .slice a4 h.2.2.length c4, .slice a5 t.length c5] 41 (0, 0)) := zAC _ _ X
   have tu7w := Nat.le_of_eq (zAj (g := w.heap.size) [.slice na fc.1.length nb, .slice nc fc.2.length nd] 0 u6w)
   have qu7w := Nat.le_of_eq (zAj (g := w.heap.size) [.slice na fc.1.length nb, .slice nc fc.2.length nd] 0 u6w).symm
   generalize (zAo u6w (w.heap.size) 0 [.slice na fc.1.length nb, .slice nc fc.2.length nd]) = u7w at B X V R K P tu7w qu7w ⊢
   rw [show (u7w.setCell ⟨w.heap.size, 4, none⟩ (.int .i64 0)) = (zAo u7w (w.heap.size) 4 [.int .i64 0]) from rfl]
   replace V := zAk (g := w.heap.size) (o := 4) (vs := [.int .i64 0]) V (by omega)
   replace R := zAk (g := w.heap.size) (o := 4) (vs := [.int .i64 0]) R (by omega)
   replace K := zAk (g := w.heap.size) (o := 4) (vs := [.int .i64 0]) K (by omega)
   replace P := zAw (g := w.heap.size) (o := 4) (vs := [.int .i64 0]) P (by omega)
   replace B := zAv (g := w.heap.size) (o := 4) (vs := [.int .i64 0]) B (by omega)
   replace X : (zAo u7w (w.heap.size) 4 [.int .i64 0]).heap[w.heap.size]? = some (.cells #[.slice na fc.1.length nb, .slice nc fc.2.length nd, .slice a1 p.length c1, .int .i64 at_, .int .i64 0, .int .i64 h.1, .int .i64 h.2.1, .slice a4 h.2.2.length c4, .slice a5 t.length c5] 41 (0, 0)) := zAC _ _ X
   have tu8w := Nat.le_of_eq (zAj (g := w.heap.size) [.int .i64 0] 4 u7w)
   have qu8w := Nat.le_of_eq (zAj (g := w.heap.size) [.int .i64 0] 4 u7w).symm
   generalize (zAo u7w (w.heap.size) 4 [.int .i64 0]) = u8w at B X V R K P tu8w qu8w ⊢
   obtain ⟨Xc0, Xc1, Xc2, Xc3, Xc4, Xc5, Xc6, Xc7, Xc8⟩ := zAc X
   have Xlt := (Array.getElem?_eq_some_iff.1 X).1
   obtain ⟨Vc0, Vc1, Vc2⟩ := zAg V
   have Vlt := (Array.getElem?_eq_some_iff.1 V).1
   obtain ⟨Rc0, Rc1, Rc2, Rc3, Rc4, Rc5, Rc6, Rc7, Rc8⟩ := zAc R
   have Rlt := (Array.getElem?_eq_some_iff.1 R).1
   obtain ⟨Kc0, Kc1⟩ := zAx K
   have Klt := (Array.getElem?_eq_some_iff.1 K).1
   go_upto_region 8 with fail
   clear Xc0 Xc1 Xc2 Xc3 Xc4 Xc5 Xc6 Xc7 Xc8 Xlt Vc0 Vc1 Vc2 Vlt Rc0 Rc1 Rc2 Rc3 Rc4 Rc5 Rc6 Rc7 Rc8 Rlt Kc0 Kc1 Klt
   generalize hu9w : u8w.alloc _ = u9w
   have M := boxH hu9w
   have bz := boxB hu9w
   have zM := boxL hu9w
   clear hu9w
   replace B := zAb B bz
   replace X := zAa bz X
   replace V := zAa bz V
   replace R := zAa bz R
   replace K := zAa bz K
   replace P := zA6 P bz
   clear bz
   have zMa := Nat.le_of_eq zM
   have zMb := Nat.le_of_eq zM.symm
   clear zM
   have hPs := P.2
   obtain ⟨o1, o4, o5, sb1, sb4, sb5, d14, d15, d45⟩ := HOW.out
   have HOX : Hid (∀ W, Below u9w.heap.size u9w W → zAn.own W (fun k => S k ∨ rng (u4w.heap.size) (u5w.heap.size) k) [.slice na fc.1.length nb, .slice nc fc.2.length nd, .slice a1 p.length c1, .int .i64 at_, .int .i64 0, .int .i64 h.1, .int .i64 h.2.1, .slice a4 h.2.2.length c4, .slice a5 t.length c5] xf) := fun W hb => by
    rw [HFC.out]
    exact zCo (x := (fc, p, at_, 0, h, t)) HIN.out.1 (show zBk 0 by constructor <;> decide) (zAB.own_keep P.1 (zAh hb)) (zBX.own_keep o1 (zAh (zAb B hb))) (zAS.own_keep o4 (zAh (zAb B hb))) (zA5.own_keep o5 (zAh (zAb B hb))) (fun k q => .inr q) (fun k q => .inl (sb1 k q)) (fun k q => .inl (sb4 k q)) (fun k q => .inl (sb5 k q)) (fun k a b => by have := HSS.out _ (sb1 k b); have := a.1; omega) (fun k a b => by have := HSS.out _ (sb4 k b); have := a.1; omega) (fun k a b => by have := HSS.out _ (sb5 k b); have := a.1; omega) d14 d15 d45
   have hTl : ∀ k, (fun k => S k ∨ rng (u4w.heap.size) (u5w.heap.size) k) k → k < u9w.heap.size := fun k q => by rcases q with q | q; (have := HSS.out _ q; have := B.size; omega); (have := q.2; omega)
   have HTL : Hid _ := hTl
   clear o1 o4 o5 sb1 sb4 sb5 d14 d15 d45 hTl
   have hdid := HDI.out (by first | rfl | trivial) (by first | rfl | trivial)
   have HDD : Hid _ := hdid
   clear hdid HDI HFL HWT HSL
   have Q : Below u9w.heap.size u9w u9w.drew := (Below.refl _ _).drew
   have XB := zBj X
   have XA := zAa (zAf u9w (.cells #[.int .i64 2, .int .i64 id, .int .i64 4, .int .i64 10, .int .i64 u.1, .slice none 0 0, .int .i64 0] 46)) X
   replace XA := zBj XA
   obtain ⟨Xc0, Xc1, Xc2, Xc3, Xc4, Xc5, Xc6, Xc7, Xc8⟩ := zAc XB
   obtain ⟨Xq0, Xq1, Xq2, Xq3, Xq4, Xq5, Xq6, Xq7, Xq8⟩ := zAc XA
   have HXL : Hid _ := (Array.getElem?_eq_some_iff.1 X).1
   have VB := zBj V
   have VA := zAa (zAf u9w (.cells #[.int .i64 2, .int .i64 id, .int .i64 4, .int .i64 10, .int .i64 u.1, .slice none 0 0, .int .i64 0] 46)) V
   replace VA := zBj VA
   obtain ⟨Vc0, Vc1, Vc2⟩ := zAg VB
   obtain ⟨Vq0, Vq1, Vq2⟩ := zAg VA
   have HVL : Hid _ := (Array.getElem?_eq_some_iff.1 V).1
   have MB := zBj M
   have MA := zAa (zAf u9w (.cells #[.int .i64 2, .int .i64 id, .int .i64 4, .int .i64 10, .int .i64 u.1, .slice none 0 0, .int .i64 0] 46)) M
   replace MA := zBj MA
   obtain ⟨Mc0, Mc1, Mc2, Mc3, Mc4, Mc5, Mc6⟩ := zAe MB
   obtain ⟨Mq0, Mq1, Mq2, Mq3, Mq4, Mq5, Mq6⟩ := zAe MA
   have HML : Hid _ := (Array.getElem?_eq_some_iff.1 M).1
   have RB := zBj R
   have RA := zAa (zAf u9w (.cells #[.int .i64 2, .int .i64 id, .int .i64 4, .int .i64 10, .int .i64 u.1, .slice none 0 0, .int .i64 0] 46)) R
   replace RA := zBj RA
   obtain ⟨Rc0, Rc1, Rc2, Rc3, Rc4, Rc5, Rc6, Rc7, Rc8⟩ := zAc RB
   obtain ⟨Rq0, Rq1, Rq2, Rq3, Rq4, Rq5, Rq6, Rq7, Rq8⟩ := zAc RA
   have HRL : Hid _ := (Array.getElem?_eq_some_iff.1 R).1
   obtain ⟨Rf0, Rf1, Rf2, Rf3, Rf4, Rf5, Rf6, Rf7, Rf8⟩ := zAr RB
   obtain ⟨Rg0, Rg1, Rg2, Rg3, Rg4, Rg5, Rg6, Rg7, Rg8⟩ := zAr RA
   clear XA XB VA VB MA MB RA RB
   have neX : Hid (w.heap.size ≠ w.heap.size + 1 + 1) := by unfold Hid; omega
   have neV : Hid (w.heap.size + 1 ≠ w.heap.size + 1 + 1) := by unfold Hid; omega
   have neM : Hid (u8w.heap.size ≠ w.heap.size + 1 + 1) := by unfold Hid; omega
   go_region_held3 (fun wx => wx.cell? ⟨w.heap.size, 0, none⟩ = some (.slice na fc.1.length nb) ∧ wx.cell? ⟨w.heap.size, 1, none⟩ = some (.slice nc fc.2.length nd) ∧ wx.cell? ⟨w.heap.size, 2, none⟩ = some (.slice a1 p.length c1) ∧ wx.cell? ⟨w.heap.size, 3, none⟩ = some (.int .i64 at_) ∧ wx.cell? ⟨w.heap.size, 4, none⟩ = some (.int .i64 0) ∧ wx.cell? ⟨w.heap.size, 5, none⟩ = some (.int .i64 h.1) ∧ wx.cell? ⟨w.heap.size, 6, none⟩ = some (.int .i64 h.2.1) ∧ wx.cell? ⟨w.heap.size, 7, none⟩ = some (.slice a4 h.2.2.length c4) ∧ wx.cell? ⟨w.heap.size, 8, none⟩ = some (.slice a5 t.length c5) ∧ wx.cell? ⟨w.heap.size + 1, 0, none⟩ = some (.int .i64 u.1) ∧ wx.cell? ⟨w.heap.size + 1, 1, none⟩ = some (.int .i64 u.2.1) ∧ wx.cell? ⟨w.heap.size + 1, 2, none⟩ = some (.slice ua u.2.2.length uc) ∧ wx.cell? ⟨u8w.heap.size, 0, none⟩ = some (.int .i64 2) ∧ wx.cell? ⟨u8w.heap.size, 1, none⟩ = some (.int .i64 id) ∧ wx.cell? ⟨u8w.heap.size, 2, none⟩ = some (.int .i64 4) ∧ wx.cell? ⟨u8w.heap.size, 3, none⟩ = some (.int .i64 10) ∧ wx.cell? ⟨u8w.heap.size, 4, none⟩ = some (.int .i64 u.1) ∧ wx.cell? ⟨u8w.heap.size, 5, none⟩ = some (.slice none 0 0) ∧ wx.cell? ⟨u8w.heap.size, 6, none⟩ = some (.int .i64 0)) (first | (with_reducible exact ⟨Xc0, Xc1, Xc2, Xc3, Xc4, Xc5, Xc6, Xc7, Xc8, Vc0, Vc1, Vc2, Mc0, Mc1, Mc2, Mc3, Mc4, Mc5, Mc6⟩) | (with_reducible exact ⟨Xq0, Xq1, Xq2, Xq3, Xq4, Xq5, Xq6, Xq7, Xq8, Vq0, Vq1, Vq2, Mq0, Mq1, Mq2, Mq3, Mq4, Mq5, Mq6⟩) | (with_reducible exact ⟨cs9 neX.out Xq0, cs9 neX.out Xq1, cs9 neX.out Xq2, cs9 neX.out Xq3, cs9 neX.out Xq4, cs9 neX.out Xq5, cs9 neX.out Xq6, cs9 neX.out Xq7, cs9 neX.out Xq8, cs9 neV.out Vq0, cs9 neV.out Vq1, cs9 neV.out Vq2, cs9 neM.out Mq0, cs9 neM.out Mq1, cs9 neM.out Mq2, cs9 neM.out Mq3, cs9 neM.out Mq4, cs9 neM.out Mq5, cs9 neM.out Mq6⟩) | (with_reducible exact ⟨cs9 neX.out Xc0, cs9 neX.out Xc1, cs9 neX.out Xc2, cs9 neX.out Xc3, cs9 neX.out Xc4, cs9 neX.out Xc5, cs9 neX.out Xc6, cs9 neX.out Xc7, cs9 neX.out Xc8, cs9 neV.out Vc0, cs9 neV.out Vc1, cs9 neV.out Vc2, cs9 neM.out Mc0, cs9 neM.out Mc1, cs9 neM.out Mc2, cs9 neM.out Mc3, cs9 neM.out Mc4, cs9 neM.out Mc5, cs9 neM.out Mc6⟩) | (with_reducible exact ⟨al9 neX.out HXL.out Xc0, al9 neX.out HXL.out Xc1, al9 neX.out HXL.out Xc2, al9 neX.out HXL.out Xc3, al9 neX.out HXL.out Xc4, al9 neX.out HXL.out Xc5, al9 neX.out HXL.out Xc6, al9 neX.out HXL.out Xc7, al9 neX.out HXL.out Xc8, al9 neV.out HVL.out Vc0, al9 neV.out HVL.out Vc1, al9 neV.out HVL.out Vc2, al9 neM.out HML.out Mc0, al9 neM.out HML.out Mc1, al9 neM.out HML.out Mc2, al9 neM.out HML.out Mc3, al9 neM.out HML.out Mc4, al9 neM.out HML.out Mc5, al9 neM.out HML.out Mc6⟩) | fail) (first | (go_at_call 106; (with_reducible (show Calls _ _ _ (World.drew (World.alloc _ _)) _)); have Q2 : Below u9w.heap.size u9w (u9w.alloc (.cells #[.int .i64 2, .int .i64 id, .int .i64 4, .int .i64 10, .int .i64 u.1, .slice none 0 0, .int .i64 0] 46)).drew := (zAf u9w (.cells #[.int .i64 2, .int .i64 id, .int .i64 4, .int .i64 10, .int .i64 u.1, .slice none 0 0, .int .i64 0] 46)).drew; refine (HDD.out (fun k => S k ∨ rng (u4w.heap.size) (u5w.heap.size) k) [.slice na fc.1.length nb, .slice nc fc.2.length nd, .slice a1 p.length c1, .int .i64 at_, .int .i64 0, .int .i64 h.1, .int .i64 h.2.1, .slice a4 h.2.2.length c4, .slice a5 t.length c5] _ (zAb B Q2) (HOX.out _ Q2) (fun k z => Nat.lt_of_lt_of_le (HTL.out k z) Q2.size)).mono ?_; rintro e wd ⟨es, rfl, DO, DC⟩; obtain ⟨dz0, dz1, dz2, dz3, dz4, dz5, dz6, dz7, dz8, dz9, rfl⟩ := zCy (zAn.own_rd DO); rw [show zAM [.slice dz0 n0.1.1.length dz1, .slice dz2 n0.1.2.length dz3, .slice dz4 n0.2.1.length dz5, .int .i64 n0.2.2.1, .int .i64 n0.2.2.2.1, .int .i64 n0.2.2.2.2.1.1, .int .i64 n0.2.2.2.2.1.2.1, .slice dz6 n0.2.2.2.2.1.2.2.length dz7, .slice dz8 n0.2.2.2.2.2.length dz9] = .agg #[.slice dz0 n0.1.1.length dz1, .slice dz2 n0.1.2.length dz3, .slice dz4 n0.2.1.length dz5, .int .i64 n0.2.2.1, .int .i64 n0.2.2.2.1, .int .i64 n0.2.2.2.2.1.1, .int .i64 n0.2.2.2.2.1.2.1, .slice dz6 n0.2.2.2.2.1.2.2.length dz7, .slice dz8 n0.2.2.2.2.2.length dz9] from rfl]; have szd := DC.size; clear Xc0 Xc1 Xc2 Xc3 Xc4 Xc5 Xc6 Xc7 Xc8 Xq0 Xq1 Xq2 Xq3 Xq4 Xq5 Xq6 Xq7 Xq8 Vc0 Vc1 Vc2 Vq0 Vq1 Vq2 Mc0 Mc1 Mc2 Mc3 Mc4 Mc5 Mc6 Mq0 Mq1 Mq2 Mq3 Mq4 Mq5 Mq6 Rc0 Rc1 Rc2 Rc3 Rc4 Rc5 Rc6 Rc7 Rc8 Rq0 Rq1 Rq2 Rq3 Rq4 Rq5 Rq6 Rq7 Rq8 Rf0 Rf1 Rf2 Rf3 Rf4 Rf5 Rf6 Rf7 Rf8 Rg0 Rg1 Rg2 Rg3 Rg4 Rg5 Rg6 Rg7 Rg8 HXL HVL HML HRL; replace X := zCh (zAa Q2 X) DC (fun q => by rcases q with q | q; (have := HSS.out _ q; have := B.size; omega); (have := q.1; have := q.2; omega)); replace V := zCh (zAa Q2 V) DC (fun q => by rcases q with q | q; (have := HSS.out _ q; have := B.size; omega); (have := q.1; have := q.2; omega)); replace M := zCh (zAa Q2 M) DC (fun q => by rcases q with q | q; (have := HSS.out _ q; have := B.size; omega); (have := q.1; have := q.2; omega)); replace R := zCh (zAa Q2 R) DC (fun q => by rcases q with q | q; (have := HSS.out _ q; have := B.size; omega); (have := q.1; have := q.2; omega)); have XB := X; have XA := zAa (zAf wd (.cells #[.int .i64 2, .int .i64 id, .int .i64 4, .int .i64 10, .int .i64 u.1, .slice none 0 0, .int .i64 0] 46)) X; obtain ⟨Xc0, Xc1, Xc2, Xc3, Xc4, Xc5, Xc6, Xc7, Xc8⟩ := zAc XB; obtain ⟨Xq0, Xq1, Xq2, Xq3, Xq4, Xq5, Xq6, Xq7, Xq8⟩ := zAc XA; have HXL : Hid _ := (Array.getElem?_eq_some_iff.1 X).1; have VB := V; have VA := zAa (zAf wd (.cells #[.int .i64 2, .int .i64 id, .int .i64 4, .int .i64 10, .int .i64 u.1, .slice none 0 0, .int .i64 0] 46)) V; obtain ⟨Vc0, Vc1, Vc2⟩ := zAg VB; obtain ⟨Vq0, Vq1, Vq2⟩ := zAg VA; have HVL : Hid _ := (Array.getElem?_eq_some_iff.1 V).1; have MB := M; have MA := zAa (zAf wd (.cells #[.int .i64 2, .int .i64 id, .int .i64 4, .int .i64 10, .int .i64 u.1, .slice none 0 0, .int .i64 0] 46)) M; obtain ⟨Mc0, Mc1, Mc2, Mc3, Mc4, Mc5, Mc6⟩ := zAe MB; obtain ⟨Mq0, Mq1, Mq2, Mq3, Mq4, Mq5, Mq6⟩ := zAe MA; have HML : Hid _ := (Array.getElem?_eq_some_iff.1 M).1; have RB := R; have RA := zAa (zAf wd (.cells #[.int .i64 2, .int .i64 id, .int .i64 4, .int .i64 10, .int .i64 u.1, .slice none 0 0, .int .i64 0] 46)) R; obtain ⟨Rc0, Rc1, Rc2, Rc3, Rc4, Rc5, Rc6, Rc7, Rc8⟩ := zAc RB; obtain ⟨Rq0, Rq1, Rq2, Rq3, Rq4, Rq5, Rq6, Rq7, Rq8⟩ := zAc RA; have HRL : Hid _ := (Array.getElem?_eq_some_iff.1 R).1; obtain ⟨Rf0, Rf1, Rf2, Rf3, Rf4, Rf5, Rf6, Rf7, Rf8⟩ := zAr RB; obtain ⟨Rg0, Rg1, Rg2, Rg3, Rg4, Rg5, Rg6, Rg7, Rg8⟩ := zAr RA; clear XA XB VA VB MA MB RA RB) | (go_at_call 106; refine (HDD.out (fun k => S k ∨ rng (u4w.heap.size) (u5w.heap.size) k) [.slice na fc.1.length nb, .slice nc fc.2.length nd, .slice a1 p.length c1, .int .i64 at_, .int .i64 0, .int .i64 h.1, .int .i64 h.2.1, .slice a4 h.2.2.length c4, .slice a5 t.length c5] _ (zAb B Q) (HOX.out _ Q) (fun k z => Nat.lt_of_lt_of_le (HTL.out k z) Q.size)).mono ?_; have LT : True := trivial; rintro e wd ⟨es, rfl, DO, DC⟩; obtain ⟨dz0, dz1, dz2, dz3, dz4, dz5, dz6, dz7, dz8, dz9, rfl⟩ := zCy (zAn.own_rd DO); rw [show zAM [.slice dz0 n0.1.1.length dz1, .slice dz2 n0.1.2.length dz3, .slice dz4 n0.2.1.length dz5, .int .i64 n0.2.2.1, .int .i64 n0.2.2.2.1, .int .i64 n0.2.2.2.2.1.1, .int .i64 n0.2.2.2.2.1.2.1, .slice dz6 n0.2.2.2.2.1.2.2.length dz7, .slice dz8 n0.2.2.2.2.2.length dz9] = .agg #[.slice dz0 n0.1.1.length dz1, .slice dz2 n0.1.2.length dz3, .slice dz4 n0.2.1.length dz5, .int .i64 n0.2.2.1, .int .i64 n0.2.2.2.1, .int .i64 n0.2.2.2.2.1.1, .int .i64 n0.2.2.2.2.1.2.1, .slice dz6 n0.2.2.2.2.1.2.2.length dz7, .slice dz8 n0.2.2.2.2.2.length dz9] from rfl]; have szd := DC.size; clear Xc0 Xc1 Xc2 Xc3 Xc4 Xc5 Xc6 Xc7 Xc8 Xq0 Xq1 Xq2 Xq3 Xq4 Xq5 Xq6 Xq7 Xq8 Vc0 Vc1 Vc2 Vq0 Vq1 Vq2 Mc0 Mc1 Mc2 Mc3 Mc4 Mc5 Mc6 Mq0 Mq1 Mq2 Mq3 Mq4 Mq5 Mq6 Rc0 Rc1 Rc2 Rc3 Rc4 Rc5 Rc6 Rc7 Rc8 Rq0 Rq1 Rq2 Rq3 Rq4 Rq5 Rq6 Rq7 Rq8 Rf0 Rf1 Rf2 Rf3 Rf4 Rf5 Rf6 Rf7 Rf8 Rg0 Rg1 Rg2 Rg3 Rg4 Rg5 Rg6 Rg7 Rg8 HXL HVL HML HRL; replace X := zCh (zBj X) DC (fun q => by rcases q with q | q; (have := HSS.out _ q; have := B.size; omega); (have := q.1; have := q.2; omega)); replace V := zCh (zBj V) DC (fun q => by rcases q with q | q; (have := HSS.out _ q; have := B.size; omega); (have := q.1; have := q.2; omega)); replace M := zCh (zBj M) DC (fun q => by rcases q with q | q; (have := HSS.out _ q; have := B.size; omega); (have := q.1; have := q.2; omega)); replace R := zCh (zBj R) DC (fun q => by rcases q with q | q; (have := HSS.out _ q; have := B.size; omega); (have := q.1; have := q.2; omega)); have XB := X; have XA := zAa (zAf wd (.cells #[.int .i64 2, .int .i64 id, .int .i64 4, .int .i64 10, .int .i64 u.1, .slice none 0 0, .int .i64 0] 46)) X; obtain ⟨Xc0, Xc1, Xc2, Xc3, Xc4, Xc5, Xc6, Xc7, Xc8⟩ := zAc XB; obtain ⟨Xq0, Xq1, Xq2, Xq3, Xq4, Xq5, Xq6, Xq7, Xq8⟩ := zAc XA; have HXL : Hid _ := (Array.getElem?_eq_some_iff.1 X).1; have VB := V; have VA := zAa (zAf wd (.cells #[.int .i64 2, .int .i64 id, .int .i64 4, .int .i64 10, .int .i64 u.1, .slice none 0 0, .int .i64 0] 46)) V; obtain ⟨Vc0, Vc1, Vc2⟩ := zAg VB; obtain ⟨Vq0, Vq1, Vq2⟩ := zAg VA; have HVL : Hid _ := (Array.getElem?_eq_some_iff.1 V).1; have MB := M; have MA := zAa (zAf wd (.cells #[.int .i64 2, .int .i64 id, .int .i64 4, .int .i64 10, .int .i64 u.1, .slice none 0 0, .int .i64 0] 46)) M; obtain ⟨Mc0, Mc1, Mc2, Mc3, Mc4, Mc5, Mc6⟩ := zAe MB; obtain ⟨Mq0, Mq1, Mq2, Mq3, Mq4, Mq5, Mq6⟩ := zAe MA; have HML : Hid _ := (Array.getElem?_eq_some_iff.1 M).1; have RB := R; have RA := zAa (zAf wd (.cells #[.int .i64 2, .int .i64 id, .int .i64 4, .int .i64 10, .int .i64 u.1, .slice none 0 0, .int .i64 0] 46)) R; obtain ⟨Rc0, Rc1, Rc2, Rc3, Rc4, Rc5, Rc6, Rc7, Rc8⟩ := zAc RB; obtain ⟨Rq0, Rq1, Rq2, Rq3, Rq4, Rq5, Rq6, Rq7, Rq8⟩ := zAc RA; have HRL : Hid _ := (Array.getElem?_eq_some_iff.1 R).1; obtain ⟨Rf0, Rf1, Rf2, Rf3, Rf4, Rf5, Rf6, Rf7, Rf8⟩ := zAr RB; obtain ⟨Rg0, Rg1, Rg2, Rg3, Rg4, Rg5, Rg6, Rg7, Rg8⟩ := zAr RA; clear XA XB VA VB MA MB RA RB) | fail)
   all_goals go_wp2
   all_goals
    have bsz := B.size
    have hye := HY9.out
    rw [if_pos (by first | rfl | trivial), if_pos (by first | rfl | trivial)] at hye
    simp only [Prod.mk.injEq] at hye
    obtain ⟨e1, e2, e3⟩ := hye
    skip
    clear Xc0 Xc1 Xc2 Xc3 Xc4 Xc5 Xc6 Xc7 Xc8 Xq0 Xq1 Xq2 Xq3 Xq4 Xq5 Xq6 Xq7 Xq8 Vc0 Vc1 Vc2 Vq0 Vq1 Vq2 Mc0 Mc1 Mc2 Mc3 Mc4 Mc5 Mc6 Mq0 Mq1 Mq2 Mq3 Mq4 Mq5 Mq6 Rc0 Rc1 Rc2 Rc3 Rc4 Rc5 Rc6 Rc7 Rc8 Rq0 Rq1 Rq2 Rq3 Rq4 Rq5 Rq6 Rq7 Rq8 Rf0 Rf1 Rf2 Rf3 Rf4 Rf5 Rf6 Rf7 Rf8 Rg0 Rg1 Rg2 Rg3 Rg4 Rg5 Rg6 Rg7 Rg8 HXL HVL HML HRL neX neV neM
    first | (have zz := LT; have V2 := zAa (zAf _ (.cells #[.int .i64 2, .int .i64 id, .int .i64 4, .int .i64 10, .int .i64 u.1, .slice none 0 0, .int .i64 0] 46)) (zAV (y0 := .slice dz0 n0.1.1.length dz1) (y1 := .slice dz2 n0.1.2.length dz3) (y2 := .slice dz4 n0.2.1.length dz5) (y3 := .int .i64 n0.2.2.1) (y4 := .int .i64 n0.2.2.2.1) (y5 := .int .i64 n0.2.2.2.2.1.1) (y6 := .int .i64 n0.2.2.2.2.1.2.1) (y7 := .slice dz6 n0.2.2.2.2.1.2.2.length dz7) (y8 := .slice dz8 n0.2.2.2.2.2.length dz9) R); obtain ⟨r0, r1, r2, r3, r4, r5, r6, r7, r8⟩ := zAc V2; have FQ := grEndA (k := 2) (m := msg 2 id 4 10 u.1 [] 0) (cm := [.int .i64 2, .int .i64 id, .int .i64 4, .int .i64 10, .int .i64 u.1, .slice none 0 0, .int .i64 0]) (S := S) (T := (fun k => S k ∨ rng (u4w.heap.size) (u5w.heap.size) k)) (w := w) (W := u9w) (wd := wd) (r := w.heap.size + 1 + 1) (vs := [.slice dz0 n0.1.1.length dz1, .slice dz2 n0.1.2.length dz3, .slice dz4 n0.2.1.length dz5, .int .i64 n0.2.2.1, .int .i64 n0.2.2.2.1, .int .i64 n0.2.2.2.2.1.1, .int .i64 n0.2.2.2.2.1.2.1, .slice dz6 n0.2.2.2.2.1.2.2.length dz7, .slice dz8 n0.2.2.2.2.2.length dz9]) (B) (Q) DO DC (fun j q => by rcases q with q | q; exact .inl q; exact .inr (by have := q.1; omega)) HTL.out (zBR (S := fun _ => False) (f0 := 2) (f1 := id) (f2 := 4) (f3 := 10) (f4 := u.1) (f6 := 0) (by constructor <;> decide) hid (by constructor <;> decide) (by constructor <;> decide) iu1 (by constructor <;> decide) (zBA _ _)) (by omega) (by omega) (fun q => by rcases q with q | q; (have := HSS.out _ q; omega); (have := q.1; omega)); simp only [zA0, zA3, Nat.reduceAdd] at FQ; rw [show zAM [.slice dz0 n0.1.1.length dz1, .slice dz2 n0.1.2.length dz3, .slice dz4 n0.2.1.length dz5, .int .i64 n0.2.2.1, .int .i64 n0.2.2.2.1, .int .i64 n0.2.2.2.2.1.1, .int .i64 n0.2.2.2.2.1.2.1, .slice dz6 n0.2.2.2.2.1.2.2.length dz7, .slice dz8 n0.2.2.2.2.2.length dz9] = .agg #[.slice dz0 n0.1.1.length dz1, .slice dz2 n0.1.2.length dz3, .slice dz4 n0.2.1.length dz5, .int .i64 n0.2.2.1, .int .i64 n0.2.2.2.1, .int .i64 n0.2.2.2.2.1.1, .int .i64 n0.2.2.2.2.1.2.1, .slice dz6 n0.2.2.2.2.1.2.2.length dz7, .slice dz8 n0.2.2.2.2.2.length dz9] from rfl] at FQ; clear V2 R M X V B Q DO DC; replace e1 := e1.symm; subst e1; subst e2; subst e3; refine bodyPost_ret (v := .tuple #[.agg #[.slice dz0 n0.1.1.length dz1, .slice dz2 n0.1.2.length dz3, .slice dz4 n0.2.1.length dz5, .int .i64 n0.2.2.1, .int .i64 n0.2.2.2.1, .int .i64 n0.2.2.2.2.1.1, .int .i64 n0.2.2.2.2.1.2.1, .slice dz6 n0.2.2.2.2.1.2.2.length dz7, .slice dz8 n0.2.2.2.2.2.length dz9], .slice (some ⟨wd.heap.size, 0, none⟩) 1 1, .int .i64 2]) (by simp [results, Tryz.results75, go_sem, r0, r1, r2, r3, r4, r5, r6, r7, r8]) rfl ?_; with_reducible exact FQ) | (have zz := LT; have V2 := zAV (y0 := .slice dz0 n0.1.1.length dz1) (y1 := .slice dz2 n0.1.2.length dz3) (y2 := .slice dz4 n0.2.1.length dz5) (y3 := .int .i64 n0.2.2.1) (y4 := .int .i64 n0.2.2.2.1) (y5 := .int .i64 n0.2.2.2.2.1.1) (y6 := .int .i64 n0.2.2.2.2.1.2.1) (y7 := .slice dz6 n0.2.2.2.2.1.2.2.length dz7) (y8 := .slice dz8 n0.2.2.2.2.2.length dz9) (zAa (zAf _ (.cells #[.int .i64 2, .int .i64 id, .int .i64 4, .int .i64 10, .int .i64 u.1, .slice none 0 0, .int .i64 0] 46)) R); obtain ⟨r0, r1, r2, r3, r4, r5, r6, r7, r8⟩ := zAc V2; have FQ := grEndC (k := 2) (m := msg 2 id 4 10 u.1 [] 0) (cm := [.int .i64 2, .int .i64 id, .int .i64 4, .int .i64 10, .int .i64 u.1, .slice none 0 0, .int .i64 0]) (S := S) (T := (fun k => S k ∨ rng (u4w.heap.size) (u5w.heap.size) k)) (w := w) (W := u9w) (wd := wd) (r := w.heap.size + 1 + 1) (vs := [.slice dz0 n0.1.1.length dz1, .slice dz2 n0.1.2.length dz3, .slice dz4 n0.2.1.length dz5, .int .i64 n0.2.2.1, .int .i64 n0.2.2.2.1, .int .i64 n0.2.2.2.2.1.1, .int .i64 n0.2.2.2.2.1.2.1, .slice dz6 n0.2.2.2.2.1.2.2.length dz7, .slice dz8 n0.2.2.2.2.2.length dz9]) (B) (Q) DO DC (fun j q => by rcases q with q | q; exact .inl q; exact .inr (by have := q.1; omega)) HTL.out (zBR (S := fun _ => False) (f0 := 2) (f1 := id) (f2 := 4) (f3 := 10) (f4 := u.1) (f6 := 0) (by constructor <;> decide) hid (by constructor <;> decide) (by constructor <;> decide) iu1 (by constructor <;> decide) (zBA _ _)) (by omega) (by omega) (fun q => by rcases q with q | q; (have := HSS.out _ q; omega); (have := q.1; omega)); simp only [zA0, zA3, Nat.reduceAdd] at FQ; rw [show zAM [.slice dz0 n0.1.1.length dz1, .slice dz2 n0.1.2.length dz3, .slice dz4 n0.2.1.length dz5, .int .i64 n0.2.2.1, .int .i64 n0.2.2.2.1, .int .i64 n0.2.2.2.2.1.1, .int .i64 n0.2.2.2.2.1.2.1, .slice dz6 n0.2.2.2.2.1.2.2.length dz7, .slice dz8 n0.2.2.2.2.2.length dz9] = .agg #[.slice dz0 n0.1.1.length dz1, .slice dz2 n0.1.2.length dz3, .slice dz4 n0.2.1.length dz5, .int .i64 n0.2.2.1, .int .i64 n0.2.2.2.1, .int .i64 n0.2.2.2.2.1.1, .int .i64 n0.2.2.2.2.1.2.1, .slice dz6 n0.2.2.2.2.1.2.2.length dz7, .slice dz8 n0.2.2.2.2.2.length dz9] from rfl] at FQ; clear V2 R M X V B Q DO DC; replace e1 := e1.symm; subst e1; subst e2; subst e3; refine bodyPost_ret (v := .tuple #[.agg #[.slice dz0 n0.1.1.length dz1, .slice dz2 n0.1.2.length dz3, .slice dz4 n0.2.1.length dz5, .int .i64 n0.2.2.1, .int .i64 n0.2.2.2.1, .int .i64 n0.2.2.2.2.1.1, .int .i64 n0.2.2.2.2.1.2.1, .slice dz6 n0.2.2.2.2.1.2.2.length dz7, .slice dz8 n0.2.2.2.2.2.length dz9], .slice (some ⟨wd.heap.size, 0, none⟩) 1 1, .int .i64 2]) (by simp [results, Tryz.results75, go_sem, r0, r1, r2, r3, r4, r5, r6, r7, r8]) rfl ?_; with_reducible exact FQ) | (have zz := Q2; have V2 := zAV (y0 := .slice dz0 n0.1.1.length dz1) (y1 := .slice dz2 n0.1.2.length dz3) (y2 := .slice dz4 n0.2.1.length dz5) (y3 := .int .i64 n0.2.2.1) (y4 := .int .i64 n0.2.2.2.1) (y5 := .int .i64 n0.2.2.2.2.1.1) (y6 := .int .i64 n0.2.2.2.2.1.2.1) (y7 := .slice dz6 n0.2.2.2.2.1.2.2.length dz7) (y8 := .slice dz8 n0.2.2.2.2.2.length dz9) R; obtain ⟨r0, r1, r2, r3, r4, r5, r6, r7, r8⟩ := zAc V2; have FQ := grEndB (k := 2) (m := msg 2 id 4 10 u.1 [] 0) (cm := [.int .i64 2, .int .i64 id, .int .i64 4, .int .i64 10, .int .i64 u.1, .slice none 0 0, .int .i64 0]) (S := S) (T := (fun k => S k ∨ rng (u4w.heap.size) (u5w.heap.size) k)) (w := w) (W := u9w) (wd := wd) (r := w.heap.size + 1 + 1) (vs := [.slice dz0 n0.1.1.length dz1, .slice dz2 n0.1.2.length dz3, .slice dz4 n0.2.1.length dz5, .int .i64 n0.2.2.1, .int .i64 n0.2.2.2.1, .int .i64 n0.2.2.2.2.1.1, .int .i64 n0.2.2.2.2.1.2.1, .slice dz6 n0.2.2.2.2.1.2.2.length dz7, .slice dz8 n0.2.2.2.2.2.length dz9]) (B) (Q) DO DC (fun j q => by rcases q with q | q; exact .inl q; exact .inr (by have := q.1; omega)) HTL.out (zBR (S := fun _ => False) (f0 := 2) (f1 := id) (f2 := 4) (f3 := 10) (f4 := u.1) (f6 := 0) (by constructor <;> decide) hid (by constructor <;> decide) (by constructor <;> decide) iu1 (by constructor <;> decide) (zBA _ _)) (by omega) (by omega) (fun q => by rcases q with q | q; (have := HSS.out _ q; omega); (have := q.1; omega)); simp only [zA0, zA3, Nat.reduceAdd] at FQ; rw [show zAM [.slice dz0 n0.1.1.length dz1, .slice dz2 n0.1.2.length dz3, .slice dz4 n0.2.1.length dz5, .int .i64 n0.2.2.1, .int .i64 n0.2.2.2.1, .int .i64 n0.2.2.2.2.1.1, .int .i64 n0.2.2.2.2.1.2.1, .slice dz6 n0.2.2.2.2.1.2.2.length dz7, .slice dz8 n0.2.2.2.2.2.length dz9] = .agg #[.slice dz0 n0.1.1.length dz1, .slice dz2 n0.1.2.length dz3, .slice dz4 n0.2.1.length dz5, .int .i64 n0.2.2.1, .int .i64 n0.2.2.2.1, .int .i64 n0.2.2.2.2.1.1, .int .i64 n0.2.2.2.2.1.2.1, .slice dz6 n0.2.2.2.2.1.2.2.length dz7, .slice dz8 n0.2.2.2.2.2.length dz9] from rfl] at FQ; clear V2 R M X V B Q DO DC; replace e1 := e1.symm; subst e1; subst e2; subst e3; refine bodyPost_ret (v := .tuple #[.agg #[.slice dz0 n0.1.1.length dz1, .slice dz2 n0.1.2.length dz3, .slice dz4 n0.2.1.length dz5, .int .i64 n0.2.2.1, .int .i64 n0.2.2.2.1, .int .i64 n0.2.2.2.2.1.1, .int .i64 n0.2.2.2.2.1.2.1, .slice dz6 n0.2.2.2.2.1.2.2.length dz7, .slice dz8 n0.2.2.2.2.2.length dz9], .slice (some ⟨u9w.heap.size, 0, none⟩) 1 1, .int .i64 2]) (by simp [results, Tryz.results75, go_sem, r0, r1, r2, r3, r4, r5, r6, r7, r8]) rfl ?_; exact FQ) | fail
end Go.Proofs.YtoihjejenjcokaaGreatDoor
