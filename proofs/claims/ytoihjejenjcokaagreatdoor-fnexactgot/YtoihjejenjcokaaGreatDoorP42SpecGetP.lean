import Derived.Test.YtoihjejenjcokaaGreatDoorP00Box
import Derived.Test.YtoihjejenjcokaaGreatDoorP34SpecGetN
import Derived.Test.YtoihjejenjcokaaGreatDoorP29CoreEvict
import Derived.Test.YtoihjejenjcokaaGreatDoorP09Lines6
import Derived.BigQuiet
import Derived.Test.YtoihjejenjcokaaGreatDoorP32SpecDo
namespace Go.Proofs.YtoihjejenjcokaaGreatDoor
set_option maxHeartbeats 8000000
set_option maxRecDepth 20000
open Go.ChangeShapes Go.WideShapes Go.ChangeAt Go.RowKit
set_option linter.unusedVariables false
theorem zMp (S : zAX) (g : Nat) (cs ns : List Value) (x : zAE) (id : Int) (m : zB5) (w : World) (ho : zAn.own w S cs x) (hS : ∀ k, S k → k < w.heap.size) (hg : ¬ S g) (hbox : w.heap[g]? = some (.cells cs.toArray 41 (0, 0))) (hm : zBy.rd w ns m) (hkd : m.2.2.2.1 = 12) (hp : x.2.2.2.1 = 1) (hl : x.2.2.2.2.1.1 = m.2.2.2.2.1) :
    Calls Tryz.prog 25 #[.pointer (some ⟨g, 0, none⟩), .int .i64 id, zAM ns] w fun e w' => GtP S g w (x.1, x.2.1, x.2.2.1, 0, zAA, x.2.2.2.2.2) [] 1 e w' := by
 obtain ⟨ma, mc, rfl, im0, im1, im2, im3, im4, im6, -, -, -⟩ := zBB hm
 obtain ⟨v0, v1, v2, v5, v6, v7, v8, S0, S1, S4, S5, rfl, i2, i3, o0, o1, o4, o5, sb0, sb1, sb4, sb5, d01, d04, d05, d14, d15, d45⟩ := zBd ho
 have r0 := zAB.own_rd o0
 obtain ⟨a0, c0, b0, d0, e0, -⟩ := zAH r0
 simp only [List.cons.injEq, and_true] at e0
 obtain ⟨rfl, rfl⟩ := e0
 obtain ⟨a1, c1, e1, -⟩ := zBX.own_rd o1
 simp only [List.cons.injEq, and_true] at e1
 obtain rfl := e1
 have r4 := zAS.own_rd o4
 obtain ⟨a4, c4, e4, ih1, ih2, -, -, q4⟩ := zAL r4
 simp only [List.cons.injEq, and_true] at e4
 obtain ⟨rfl, rfl, rfl⟩ := e4
 obtain ⟨a5, c5, e5, -⟩ := zA5.own_rd o5
 simp only [List.cons.injEq, and_true] at e5
 obtain rfl := e5
 have HO : Hid (∀ W, Below w.heap.size w W → zAn.own W S [.slice a0 x.1.1.length c0, .slice b0 x.1.2.length d0, .slice a1 x.2.1.length c1, .int .i64 x.2.2.1, .int .i64 x.2.2.2.1, .int .i64 x.2.2.2.2.1.1, .int .i64 x.2.2.2.2.1.2.1, .slice a4 x.2.2.2.2.1.2.2.length c4, .slice a5 x.2.2.2.2.2.length c5] x) := fun W hb => zAn.own_keep ho (zAh hb)
 have HSS : Hid _ := And.intro hS hg
 have G : w.heap[g]? = some (.cells #[.slice a0 x.1.1.length c0, .slice b0 x.1.2.length d0, .slice a1 x.2.1.length c1, .int .i64 x.2.2.1, .int .i64 x.2.2.2.1, .int .i64 x.2.2.2.2.1.1, .int .i64 x.2.2.2.2.1.2.1, .slice a4 x.2.2.2.2.1.2.2.length c4, .slice a5 x.2.2.2.2.2.length c5] 41 (0, 0)) := hbox
 have gl := (Array.getElem?_eq_some_iff.1 G).1
 have HOW : Hid _ := And.intro o0 (And.intro o1 (And.intro o5 (And.intro sb0 (And.intro sb1 (And.intro sb5 (And.intro d01 (And.intro d05 (And.intro d15 i2))))))))
 obtain ⟨c, p, at_, ph, h, t⟩ := x
 simp only at *
 clear ho hS hg r0 r4 q4 o0 o1 o4 o5 sb0 sb1 sb4 sb5 d01 d04 d05 d14 d15 d45 i2 i3 ih1 ih2 hm hbox im0 im1 im2 im3 im4 im6 HO
 have z6 : (m.2.2.2.1 == 6) = false := by simp [hkd]
 have z7 : (m.2.2.2.1 == 7) = false := by simp [hkd]
 have z12 : (m.2.2.2.1 == 12) = true := by simp [hkd]
 have y1 : (ph != 1) = false := by simp [hp]
 have y2 : (h.1 != m.2.2.2.2.1) = false := by simp [hl]
 clear hkd hp hl
 rw [show zAM [.int .i64 m.1, .int .i64 m.2.1, .int .i64 m.2.2.1, .int .i64 m.2.2.2.1, .int .i64 m.2.2.2.2.1, .slice ma m.2.2.2.2.2.1.length mc, .int .i64 m.2.2.2.2.2.2] = .agg #[.int .i64 m.1, .int .i64 m.2.1, .int .i64 m.2.2.1, .int .i64 m.2.2.2.1, .int .i64 m.2.2.2.2.1, .slice ma m.2.2.2.2.2.1.length mc, .int .i64 m.2.2.2.2.2.2] from rfl]
 have B := Below.refl w.heap.size w
 go_enter Tryz.func25, Tryz.ntmps25
 go_upto_region 1 with fail
 generalize hu1w : w.alloc _ = u1w
 have N := boxH hu1w
 have bz := boxB hu1w
 have zN := boxL hu1w
 clear hu1w
 replace B := zAb B bz
 replace G := zAa bz G
 clear bz
 have zNa := Nat.le_of_eq zN
 have zNb := Nat.le_of_eq zN.symm
 clear zN
 obtain ⟨Gc0, Gc1, Gc2, Gc3, Gc4, Gc5, Gc6, Gc7, Gc8⟩ := zAc G
 have Glt := (Array.getElem?_eq_some_iff.1 G).1
 obtain ⟨Nc0, Nc1, Nc2, Nc3, Nc4, Nc5, Nc6⟩ := zAe N
 have Nlt := (Array.getElem?_eq_some_iff.1 N).1
 go_upto_region 2 with fail
 clear Gc0 Gc1 Gc2 Gc3 Gc4 Gc5 Gc6 Gc7 Gc8 Glt Nc0 Nc1 Nc2 Nc3 Nc4 Nc5 Nc6 Nlt
 have Zo : zCp zBp (w.heap.size + 1) (w.heap.size + 1 + 1) (u1w.alloc (.cells #[] 46)) [.slice (some ⟨w.heap.size + 1, 0, none⟩) 0 0] [] := by
  have q := zC3 (e := 46) (R := zBy) u1w
  rw [show u1w.heap.size = w.heap.size + 1 from by omega] at q
  exact And.intro (zBp.own_mono q (fun k z => by have z2 : k = w.heap.size + 1 := z; exact ⟨by omega, by omega⟩)) (by rw [zAp]; omega)
 have bz := zAf u1w (.cells #[] 46)
 have zz := zAp u1w (.cells #[] 46)
 replace B := zAb B bz
 replace G := zAa bz G
 replace N := zAa bz N
 clear bz
 generalize u1w.alloc (.cells #[] 46) = u2w at B G N Zo zz ⊢
 have zza := Nat.le_of_eq zz
 have zzb := Nat.le_of_eq zz.symm
 clear zz
 obtain ⟨Gc0, Gc1, Gc2, Gc3, Gc4, Gc5, Gc6, Gc7, Gc8⟩ := zAc G
 have Glt := (Array.getElem?_eq_some_iff.1 G).1
 obtain ⟨Nc0, Nc1, Nc2, Nc3, Nc4, Nc5, Nc6⟩ := zAe N
 have Nlt := (Array.getElem?_eq_some_iff.1 N).1
 go_upto_region 11 with fail
 clear Gc0 Gc1 Gc2 Gc3 Gc4 Gc5 Gc6 Gc7 Gc8 Glt Nc0 Nc1 Nc2 Nc3 Nc4 Nc5 Nc6 Nlt
 go_cut [44] (fun q wx => q = .bool false ∧ Below u2w.heap.size u2w wx)
 case first =>
  obtain ⟨Gc0, Gc1, Gc2, Gc3, Gc4, Gc5, Gc6, Gc7, Gc8⟩ := zAc G
  have Glt := (Array.getElem?_eq_some_iff.1 G).1
  obtain ⟨Nc0, Nc1, Nc2, Nc3, Nc4, Nc5, Nc6⟩ := zAe N
  have Nlt := (Array.getElem?_eq_some_iff.1 N).1
  clear B G N Zo
  go_quiet (fail)
  go_wp2_with fail
  go_meet
  exact ⟨rfl, zBt (Below.refl _ _) _⟩
 case rest =>
  obtain ⟨rfl, bq⟩ := hcut
  generalize wc = u3w at bq ⊢
  have tu3w : u2w.heap.size ≤ u3w.heap.size := bq.size
  replace B := zAb B bq
  replace G := zAa bq G
  replace N := zAa bq N
  replace Zo := zA6 Zo bq
  clear bq
  obtain ⟨Gc0, Gc1, Gc2, Gc3, Gc4, Gc5, Gc6, Gc7, Gc8⟩ := zAc G
  have Glt := (Array.getElem?_eq_some_iff.1 G).1
  obtain ⟨Gf0, Gf1, Gf2, Gf3, Gf4, Gf5, Gf6, Gf7, Gf8⟩ := zAr G
  obtain ⟨Nc0, Nc1, Nc2, Nc3, Nc4, Nc5, Nc6⟩ := zAe N
  have Nlt := (Array.getElem?_eq_some_iff.1 N).1
  have ne7 : ¬ (g = w.heap.size) := by omega
  have ne8 : ¬ (w.heap.size = g) := by omega
  have HK : Hid _ := And.intro B (And.intro G (And.intro N (Zo)))
  clear B G N Zo
  go_wp2_with fail
  clear ne7 ne8
  clear Gc0 Gc1 Gc2 Gc3 Gc4 Gc5 Gc6 Gc7 Gc8 Glt Gf0 Gf1 Gf2 Gf3 Gf4 Gf5 Gf6 Gf7 Gf8 Nc0 Nc1 Nc2 Nc3 Nc4 Nc5 Nc6 Nlt
  obtain ⟨B, G, N, Zo⟩ := HK.out
  clear HK
  rw [show u3w.setCell ⟨g, 4, none⟩ (.int .i64 0) = (zAo u3w g 4 [.int .i64 0]) from rfl]
  have bsz := B.size
  obtain ⟨o0, o1, o5, sb0, sb1, sb5, d01, d05, d15, i2⟩ := HOW.out
  obtain ⟨hS, hg⟩ := HSS.out
  replace G : (zAo u3w g 4 [.int .i64 0]).heap[g]? = some (.cells #[.slice a0 c.1.length c0, .slice b0 c.2.length d0, .slice a1 p.length c1, .int .i64 at_, .int .i64 0, .int .i64 h.1, .int .i64 h.2.1, .slice a4 h.2.2.length c4, .slice a5 t.length c5] 41 (0, 0)) := zAC (g := g) [.int .i64 0] 4 G
  replace Zo := zAw (g := g) (o := 4) (vs := [.int .i64 0]) Zo (by omega)
  replace o0 := zAs (g := g) (o := 4) (vs := [.int .i64 0]) (zAB.own_keep o0 (zAh B)) (fun q => hg (sb0 _ q))
  replace o1 := zAs (g := g) (o := 4) (vs := [.int .i64 0]) (zBX.own_keep o1 (zAh B)) (fun q => hg (sb1 _ q))
  replace o5 := zAs (g := g) (o := 4) (vs := [.int .i64 0]) (zA5.own_keep o5 (zAh B)) (fun q => hg (sb5 _ q))
  have CH : Chg (fun j => S j ∨ j = g) w (zAo u3w g 4 [.int .i64 0]) := (zII B).trans ((zBU [.int .i64 0] 4 u3w (g := g)).mono fun j q => .inr q)
  have zsa := Nat.le_of_eq (zAj (g := g) [.int .i64 0] 4 u3w)
  have zsb := Nat.le_of_eq (zAj (g := g) [.int .i64 0] 4 u3w).symm
  clear B N
  generalize (zAo u3w g 4 [.int .i64 0]) = wS at G Zo o0 o1 o5 CH zsa zsb ⊢
  refine (zGU _).mono ?_
  rintro e w9 ⟨us, rfl, mm⟩
  obtain ⟨ea, ec, e9, -, -, -, -, -⟩ := zAL (zAS.own_rd mm.1)
  obtain rfl : us = [.int .i64 (-1), .int .i64 0, .slice ea 0 ec] := e9
  rw [show zAM [.int .i64 (-1), .int .i64 0, .slice ea 0 ec] = .agg #[.int .i64 (-1), .int .i64 0, .slice ea 0 ec] from rfl]
  have E := zAR (R := zAS) mm
  have mb := mm.2
  have sz9 := mb.size
  replace G := zAa mb G
  replace Zo := zA6 Zo mb
  replace o0 := zAB.own_keep o0 (zAh mb)
  replace o1 := zBX.own_keep o1 (zAh mb)
  replace o5 := zA5.own_keep o5 (zAh mb)
  replace CH := CH.trans (zA9 mb)
  clear mb mm
  obtain ⟨y0_, y1_, y2_, y3_, y4_, y5_, y6_, y7_, y8_⟩ := zAc G
  obtain ⟨f0_, f1_, f2_, f3_, f4_, f5_, f6_, f7_, f8_⟩ := zAr G
  have HK : Hid _ := And.intro G (And.intro Zo (And.intro o0 (And.intro o1 (And.intro o5 (And.intro CH E)))))
  clear G Zo o0 o1 o5 CH E
  go_wp2
  obtain ⟨G, Zo, o0, o1, o5, CH, E⟩ := HK.out
  clear HK
  have zs := Zo.2
  have es := E.2
  have FS : (zAo w9 g 5 [.int .i64 (-1), .int .i64 0, .slice ea 0 ec]).heap.size = w9.heap.size := zAj _ _ _
  have G9 : (zAo w9 g 5 [.int .i64 (-1), .int .i64 0, .slice ea 0 ec]).heap[g]? = some (.cells #[.slice a0 c.1.length c0, .slice b0 c.2.length d0, .slice a1 p.length c1, .int .i64 at_, .int .i64 0, .int .i64 (-1), .int .i64 0, .slice ea 0 ec, .slice a5 t.length c5] 41 (0, 0)) := zAC (g := g) [.int .i64 (-1), .int .i64 0, .slice ea 0 ec] 5 G
  have OC := zC9 (w := w9) (a := at_) (ph := 0) (S := fun q => S q ∨ (wS.heap.size ≤ q ∧ q < w9.heap.size)) i2 (by constructor <;> decide) o0 o1 E.1 o5 (fun q z => .inl (sb0 _ z)) (fun q z => .inl (sb1 _ z)) (fun q z => .inr z) (fun q z => .inl (sb5 _ z)) d01 (fun q a b => by have := hS _ (sb0 _ a); have := b.1; omega) d05 (fun q a b => by have := hS _ (sb1 _ a); have := b.1; omega) d15 (fun q a b => by have := hS _ (sb5 _ b); have := a.1; omega)
  have FQ : GtP S g w (c, p, at_, 0, zAA, t) [] 1 (.returned (.tuple #[.slice (some ⟨w.heap.size + 1, 0, none⟩) 0 0, .int .i64 1])) (zAo w9 g 5 [.int .i64 (-1), .int .i64 0, .slice ea 0 ec]) := ⟨[.slice a0 c.1.length c0, .slice b0 c.2.length d0, .slice a1 p.length c1, .int .i64 at_, .int .i64 0, .int .i64 (-1), .int .i64 0, .slice ea 0 ec, .slice a5 t.length c5], _, rfl, zAn.own_mono (zAs (g := g) (o := 5) (vs := [.int .i64 (-1), .int .i64 0, .slice ea 0 ec]) OC (fun q => by rcases q with q | q; exact hg q; omega)) (fun j q => by rw [FS]; rcases q with q | q; exact .inl q; exact .inr ⟨by omega, q.2⟩), zBp.own_mono (zAw (g := g) (o := 5) (vs := [.int .i64 (-1), .int .i64 0, .slice ea 0 ec]) Zo (by omega)).1 (fun j q => ⟨by have := q.1; omega, by rw [FS]; have := q.2; omega⟩), G9, CH.trans ((zBU [.int .i64 (-1), .int .i64 0, .slice ea 0 ec] 5 w9 (g := g)).mono fun j q => .inr q)⟩
  simp only [zA0, zA3, Nat.reduceAdd] at FQ
  clear G Zo o0 o1 o5 CH E G9 OC FS
  refine bodyPost_ret (v := .tuple #[.slice (some ⟨w.heap.size + 1, 0, none⟩) 0 0, .int .i64 1]) (by simp [results, Tryz.results25, go_sem]) rfl ?_
  exact FQ
theorem zFM (S : zAX) (g : Nat) (cs ns : List Value) (x : zAE) (id : Int) (m : zB5) (w : World) (ho : zAn.own w S cs x) (hS : ∀ k, S k → k < w.heap.size) (hg : ¬ S g) (hbox : w.heap[g]? = some (.cells cs.toArray 41 (0, 0))) (hm : zBy.rd w ns m) (hkd : m.2.2.2.1 = 11) (hp : ¬ x.2.2.2.1 = 2) :
    Calls Tryz.prog 25 #[.pointer (some ⟨g, 0, none⟩), .int .i64 id, zAM ns] w fun e w' => GtP S g w x [] 0 e w' := by
 obtain ⟨ma, mc, rfl, im0, im1, im2, im3, im4, im6, -, -, -⟩ := zBB hm
 obtain ⟨v0, v1, v2, v5, v6, v7, v8, S0, S1, S4, S5, rfl, i2, i3, o0, o1, o4, o5, sb0, sb1, sb4, sb5, d01, d04, d05, d14, d15, d45⟩ := zBd ho
 have r0 := zAB.own_rd o0
 obtain ⟨a0, c0, b0, d0, e0, -⟩ := zAH r0
 simp only [List.cons.injEq, and_true] at e0
 obtain ⟨rfl, rfl⟩ := e0
 obtain ⟨a1, c1, e1, -⟩ := zBX.own_rd o1
 simp only [List.cons.injEq, and_true] at e1
 obtain rfl := e1
 have r4 := zAS.own_rd o4
 obtain ⟨a4, c4, e4, ih1, ih2, -, -, q4⟩ := zAL r4
 simp only [List.cons.injEq, and_true] at e4
 obtain ⟨rfl, rfl, rfl⟩ := e4
 obtain ⟨a5, c5, e5, -⟩ := zA5.own_rd o5
 simp only [List.cons.injEq, and_true] at e5
 obtain rfl := e5
 have HO : Hid (∀ W, Below w.heap.size w W → zAn.own W S [.slice a0 x.1.1.length c0, .slice b0 x.1.2.length d0, .slice a1 x.2.1.length c1, .int .i64 x.2.2.1, .int .i64 x.2.2.2.1, .int .i64 x.2.2.2.2.1.1, .int .i64 x.2.2.2.2.1.2.1, .slice a4 x.2.2.2.2.1.2.2.length c4, .slice a5 x.2.2.2.2.2.length c5] x) := fun W hb => zAn.own_keep ho (zAh hb)
 have HSS : Hid _ := And.intro hS hg
 have G : w.heap[g]? = some (.cells #[.slice a0 x.1.1.length c0, .slice b0 x.1.2.length d0, .slice a1 x.2.1.length c1, .int .i64 x.2.2.1, .int .i64 x.2.2.2.1, .int .i64 x.2.2.2.2.1.1, .int .i64 x.2.2.2.2.1.2.1, .slice a4 x.2.2.2.2.1.2.2.length c4, .slice a5 x.2.2.2.2.2.length c5] 41 (0, 0)) := hbox
 have gl := (Array.getElem?_eq_some_iff.1 G).1
 obtain ⟨c, p, at_, ph, h, t⟩ := x
 simp only at *
 clear ho hS hg r0 r4 q4 o0 o1 o4 o5 sb0 sb1 sb4 sb5 d01 d04 d05 d14 d15 d45 i2 i3 ih1 ih2 hm hbox im0 im1 im2 im3 im4 im6 
 have z6 : (m.2.2.2.1 == 6) = false := by simp [hkd]
 have z7 : (m.2.2.2.1 == 7) = false := by simp [hkd]
 have z12 : (m.2.2.2.1 == 12) = false := by simp [hkd]
 have z11 : (m.2.2.2.1 == 11) = true := by simp [hkd]
 have y1 : (ph != 2) = true := by simp [hp]
 clear hkd hp
 rw [show zAM [.int .i64 m.1, .int .i64 m.2.1, .int .i64 m.2.2.1, .int .i64 m.2.2.2.1, .int .i64 m.2.2.2.2.1, .slice ma m.2.2.2.2.2.1.length mc, .int .i64 m.2.2.2.2.2.2] = .agg #[.int .i64 m.1, .int .i64 m.2.1, .int .i64 m.2.2.1, .int .i64 m.2.2.2.1, .int .i64 m.2.2.2.2.1, .slice ma m.2.2.2.2.2.1.length mc, .int .i64 m.2.2.2.2.2.2] from rfl]
 have B := Below.refl w.heap.size w
 go_enter Tryz.func25, Tryz.ntmps25
 go_upto_region 1 with fail
 generalize hu1w : w.alloc _ = u1w
 have N := boxH hu1w
 have bz := boxB hu1w
 have zN := boxL hu1w
 clear hu1w
 replace B := zAb B bz
 replace G := zAa bz G
 clear bz
 have zNa := Nat.le_of_eq zN
 have zNb := Nat.le_of_eq zN.symm
 clear zN
 obtain ⟨Gc0, Gc1, Gc2, Gc3, Gc4, Gc5, Gc6, Gc7, Gc8⟩ := zAc G
 have Glt := (Array.getElem?_eq_some_iff.1 G).1
 obtain ⟨Nc0, Nc1, Nc2, Nc3, Nc4, Nc5, Nc6⟩ := zAe N
 have Nlt := (Array.getElem?_eq_some_iff.1 N).1
 go_upto_region 2 with fail
 clear Gc0 Gc1 Gc2 Gc3 Gc4 Gc5 Gc6 Gc7 Gc8 Glt Nc0 Nc1 Nc2 Nc3 Nc4 Nc5 Nc6 Nlt
 have Zo : zCp zBp (w.heap.size + 1) (w.heap.size + 1 + 1) (u1w.alloc (.cells #[] 46)) [.slice (some ⟨w.heap.size + 1, 0, none⟩) 0 0] [] := by
  have q := zC3 (e := 46) (R := zBy) u1w
  rw [show u1w.heap.size = w.heap.size + 1 from by omega] at q
  exact And.intro (zBp.own_mono q (fun k z => by have z2 : k = w.heap.size + 1 := z; exact ⟨by omega, by omega⟩)) (by rw [zAp]; omega)
 have bz := zAf u1w (.cells #[] 46)
 have zz := zAp u1w (.cells #[] 46)
 replace B := zAb B bz
 replace G := zAa bz G
 replace N := zAa bz N
 clear bz
 generalize u1w.alloc (.cells #[] 46) = u2w at B G N Zo zz ⊢
 have zza := Nat.le_of_eq zz
 have zzb := Nat.le_of_eq zz.symm
 clear zz
 obtain ⟨Gc0, Gc1, Gc2, Gc3, Gc4, Gc5, Gc6, Gc7, Gc8⟩ := zAc G
 have Glt := (Array.getElem?_eq_some_iff.1 G).1
 obtain ⟨Nc0, Nc1, Nc2, Nc3, Nc4, Nc5, Nc6⟩ := zAe N
 have Nlt := (Array.getElem?_eq_some_iff.1 N).1
 go_upto_region 17 with fail
 clear Gc0 Gc1 Gc2 Gc3 Gc4 Gc5 Gc6 Gc7 Gc8 Glt Nc0 Nc1 Nc2 Nc3 Nc4 Nc5 Nc6 Nlt
 go_cut [89] (fun q wx => q = .bool true ∧ Below u2w.heap.size u2w wx)
 case first =>
  obtain ⟨Gc0, Gc1, Gc2, Gc3, Gc4, Gc5, Gc6, Gc7, Gc8⟩ := zAc G
  have Glt := (Array.getElem?_eq_some_iff.1 G).1
  obtain ⟨Nc0, Nc1, Nc2, Nc3, Nc4, Nc5, Nc6⟩ := zAe N
  have Nlt := (Array.getElem?_eq_some_iff.1 N).1
  clear B G N Zo
  go_quiet (fail)
  go_wp2_with fail
  go_meet
  exact ⟨rfl, zBt (Below.refl _ _) _⟩
 case rest =>
  obtain ⟨rfl, bq⟩ := hcut
  generalize wc = u3w at bq ⊢
  have tu3w : u2w.heap.size ≤ u3w.heap.size := bq.size
  replace B := zAb B bq
  replace G := zAa bq G
  replace N := zAa bq N
  replace Zo := zA6 Zo bq
  clear bq
  obtain ⟨Gc0, Gc1, Gc2, Gc3, Gc4, Gc5, Gc6, Gc7, Gc8⟩ := zAc G
  have Glt := (Array.getElem?_eq_some_iff.1 G).1
  obtain ⟨Nc0, Nc1, Nc2, Nc3, Nc4, Nc5, Nc6⟩ := zAe N
  have Nlt := (Array.getElem?_eq_some_iff.1 N).1
  have HK : Hid _ := And.intro B (And.intro G (And.intro N (Zo)))
  clear B G N Zo
  go_wp2
  clear Gc0 Gc1 Gc2 Gc3 Gc4 Gc5 Gc6 Gc7 Gc8 Glt Nc0 Nc1 Nc2 Nc3 Nc4 Nc5 Nc6 Nlt
  obtain ⟨B, G, N, Zo⟩ := HK.out
  clear HK
  have bsz := B.size
  have zs := Zo.2
  refine bodyPost_ret (v := .tuple #[.slice (some ⟨w.heap.size + 1, 0, none⟩) 0 0, .int .i64 0]) (by simp [results, Tryz.results25, go_sem]) rfl ?_
  exact ⟨[.slice a0 c.1.length c0, .slice b0 c.2.length d0, .slice a1 p.length c1, .int .i64 at_, .int .i64 ph, .int .i64 h.1, .int .i64 h.2.1, .slice a4 h.2.2.length c4, .slice a5 t.length c5], _, rfl, zAn.own_mono (HO.out _ B) (fun k q => .inl q), zBp.own_mono Zo.1 (fun k q => ⟨by have := q.1; omega, by have := q.2; omega⟩), G, zII B⟩
theorem zCH (S : zAX) (g : Nat) (cs ns : List Value) (x : zAE) (id : Int) (m : zB5) (w : World) (ho : zAn.own w S cs x) (hS : ∀ k, S k → k < w.heap.size) (hg : ¬ S g) (hbox : w.heap[g]? = some (.cells cs.toArray 41 (0, 0))) (hm : zBy.rd w ns m) (hk : zAZ x = true) (hkd : m.2.2.2.1 = 11) (hp : x.2.2.2.1 = 2) (hno : ¬ zBf (zBv (toS x)) = m.2.2.2.2.1 ∨ (zBf (zBv (toS x)) = m.2.2.2.2.1 ∧ isL m.2.2.2.2.2.1 = false) ∨ (zBf (zBv (toS x)) = m.2.2.2.2.1 ∧ isL m.2.2.2.2.2.1 = true ∧ zAQ m.2.2.2.2.2.2 1 3 = false)) :
    Calls Tryz.prog 25 #[.pointer (some ⟨g, 0, none⟩), .int .i64 id, zAM ns] w fun e w' => GtP S g w x [] 0 e w' := by
 have hP := zB4 hk
 have h1 : x.2.2.1 < (x.2.1.length : Int) := hP.wait hp
 have hat0 : 0 ≤ x.2.2.1 := hP.at0
 have hpl : x.2.1.length ≤ 30 := hP.len
 have hoo : zBN (zBv (toS x)) = true := hP.ops _ (zEa hP.at0 h1)
 have hos := zGX hat0 h1
 obtain ⟨o, hoe⟩ : ∃ o, o = zBv (toS x) := ⟨_, rfl⟩
 rw [← hoe] at hos hoo hno
 clear hoe
 obtain ⟨kl, hkl⟩ : ∃ kl, kl = zBf o := ⟨_, rfl⟩
 rw [← hkl] at hno
 obtain ⟨hq0, hq1⟩ := zFK hoo
 have htd2 : Int.tdiv o.2.1 2 = kl := by rw [hkl]; unfold zBf; rw [Int.tdiv_eq_ediv_of_nonneg hq0]
 have hdv : o.2.1 / 2 = kl := hkl.symm
 have hk6 : zBk kl := by rw [hkl]; unfold zBf; constructor <;> omega
 have hwk : IntKind.i64.wrap kl = kl := by rw [IntKind.wrap_i64]; have := hk6.1; have := hk6.2; omega
 obtain ⟨ma, mc, rfl, im0, im1, im2, im3, im4, im6, ml1, ml2, mq⟩ := zBB hm
 obtain ⟨v0, v1, v2, v5, v6, v7, v8, S0, S1, S4, S5, rfl, i2, i3, o0, o1, o4, o5, sb0, sb1, sb4, sb5, d01, d04, d05, d14, d15, d45⟩ := zBd ho
 have r0 := zAB.own_rd o0
 obtain ⟨a0, c0, b0, d0, e0, -⟩ := zAH r0
 simp only [List.cons.injEq, and_true] at e0
 obtain ⟨rfl, rfl⟩ := e0
 obtain ⟨a1, c1, e1, -, -, q1⟩ := zBX.own_rd o1
 simp only [List.cons.injEq, and_true] at e1
 obtain rfl := e1
 have r4 := zAS.own_rd o4
 obtain ⟨a4, c4, e4, ih1, ih2, -, -, q4⟩ := zAL r4
 simp only [List.cons.injEq, and_true] at e4
 obtain ⟨rfl, rfl, rfl⟩ := e4
 obtain ⟨a5, c5, e5, -⟩ := zA5.own_rd o5
 simp only [List.cons.injEq, and_true] at e5
 obtain rfl := e5
 have HLK : Hid (∀ W, Below w.heap.size w W → Calls Tryz.prog 60 #[.slice ma m.2.2.2.2.2.1.length mc] W fun e w' => e = .returned (.bool (isL m.2.2.2.2.2.1)) ∧ w' = W) := fun W hb => zD3 ma m.2.2.2.2.2.1 mc W (zCw (zAG mq hb))
 have HIN : Hid (∀ W, Calls Tryz.prog 23 #[.int .i64 m.2.2.2.2.2.2, .int .i64 1, .int .i64 3] W fun e w' => e = .returned (.bool (zAQ m.2.2.2.2.2.2 1 3)) ∧ w' = W) := fun W => zBa m.2.2.2.2.2.2 1 3 W
 have HO : Hid (∀ W, Below w.heap.size w W → zAn.own W S [.slice a0 x.1.1.length c0, .slice b0 x.1.2.length d0, .slice a1 x.2.1.length c1, .int .i64 x.2.2.1, .int .i64 x.2.2.2.1, .int .i64 x.2.2.2.2.1.1, .int .i64 x.2.2.2.2.1.2.1, .slice a4 x.2.2.2.2.1.2.2.length c4, .slice a5 x.2.2.2.2.2.length c5] x) := fun W hb => zAn.own_keep ho (zAh hb)
 have HSS : Hid _ := And.intro hS hg
 obtain ⟨c, p, at_, ph, h, t⟩ := x
 simp only at *
 obtain ⟨n, rfl⟩ : ∃ n : Nat, at_ = n := ⟨at_.toNat, by omega⟩
 have hn : n < p.length := by omega
 have hn' : (n : Int) < (p.length : Int) := h1
 rw [show ((n : Int)).toNat = n by omega] at hos
 obtain ⟨ob, oo, rfl, -, -, -, -, -⟩ := zEt q1 hos
 have HOC : Hid (∀ W, Below w.heap.size w W → W.cell? ⟨ob, oo + n * 4, none⟩ = some (.int .i64 o.1) ∧ W.cell? ⟨ob, oo + n * 4 + 1, none⟩ = some (.int .i64 o.2.1) ∧ W.cell? ⟨ob, oo + n * 4 + 2, none⟩ = some (.int .i64 o.2.2.1) ∧ W.cell? ⟨ob, oo + n * 4 + 3, none⟩ = some (.int .i64 o.2.2.2) ∧ ob < W.heap.size) := fun W hb => by
  obtain ⟨b9, o9, e9, x0, x1, x2, x3, -⟩ := zEt (zAG q1 hb) hos
  simp only [Option.some.injEq, Addr.mk.injEq, and_true] at e9
  obtain ⟨rfl, rfl⟩ := e9
  exact ⟨x0, x1, x2, x3, zAi x0⟩
 have G : w.heap[g]? = some (.cells #[.slice a0 c.1.length c0, .slice b0 c.2.length d0, .slice (some ⟨ob, oo, none⟩) p.length c1, .int .i64 (n : Int), .int .i64 ph, .int .i64 h.1, .int .i64 h.2.1, .slice a4 h.2.2.length c4, .slice a5 t.length c5] 41 (0, 0)) := hbox
 have gl := (Array.getElem?_eq_some_iff.1 G).1
 have z6 : (m.2.2.2.1 == 6) = false := by simp [hkd]
 have z7 : (m.2.2.2.1 == 7) = false := by simp [hkd]
 have z12 : (m.2.2.2.1 == 12) = false := by simp [hkd]
 have z11 : (m.2.2.2.1 == 11) = true := by simp [hkd]
 have y1 : (ph != 2) = false := by simp [hp]
 clear ho hS hg r0 r4 q4 o0 o1 o4 o5 sb0 sb1 sb4 sb5 d01 d04 d05 d14 d15 d45 i2 i3 ih1 ih2 hm hbox im0 im1 im2 im3 im4 im6 hkd hp hP h1 hat0 hoo hos hk q1 hkl hq0 hq1 ml1 ml2 mq
 rw [show zAM [.int .i64 m.1, .int .i64 m.2.1, .int .i64 m.2.2.1, .int .i64 m.2.2.2.1, .int .i64 m.2.2.2.2.1, .slice ma m.2.2.2.2.2.1.length mc, .int .i64 m.2.2.2.2.2.2] = .agg #[.int .i64 m.1, .int .i64 m.2.1, .int .i64 m.2.2.1, .int .i64 m.2.2.2.1, .int .i64 m.2.2.2.2.1, .slice ma m.2.2.2.2.2.1.length mc, .int .i64 m.2.2.2.2.2.2] from rfl]
 have B := Below.refl w.heap.size w
 go_enter Tryz.func25, Tryz.ntmps25
 go_upto_region 1 with fail
 generalize hu1w : w.alloc _ = u1w
 have N := boxH hu1w
 have bz := boxB hu1w
 have zN := boxL hu1w
 clear hu1w
 replace B := zAb B bz
 replace G := zAa bz G
 clear bz
 have zNa := Nat.le_of_eq zN
 have zNb := Nat.le_of_eq zN.symm
 clear zN
 obtain ⟨Gc0, Gc1, Gc2, Gc3, Gc4, Gc5, Gc6, Gc7, Gc8⟩ := zAc G
 have Glt := (Array.getElem?_eq_some_iff.1 G).1
 obtain ⟨Nc0, Nc1, Nc2, Nc3, Nc4, Nc5, Nc6⟩ := zAe N
 have Nlt := (Array.getElem?_eq_some_iff.1 N).1
 go_upto_region 2 with fail
 clear Gc0 Gc1 Gc2 Gc3 Gc4 Gc5 Gc6 Gc7 Gc8 Glt Nc0 Nc1 Nc2 Nc3 Nc4 Nc5 Nc6 Nlt
 have Zo : zCp zBp (w.heap.size + 1) (w.heap.size + 1 + 1) (u1w.alloc (.cells #[] 46)) [.slice (some ⟨w.heap.size + 1, 0, none⟩) 0 0] [] := by
  have q := zC3 (e := 46) (R := zBy) u1w
  rw [show u1w.heap.size = w.heap.size + 1 from by omega] at q
  exact And.intro (zBp.own_mono q (fun k z => by have z2 : k = w.heap.size + 1 := z; exact ⟨by omega, by omega⟩)) (by rw [zAp]; omega)
 have bz := zAf u1w (.cells #[] 46)
 have zz := zAp u1w (.cells #[] 46)
 replace B := zAb B bz
 replace G := zAa bz G
 replace N := zAa bz N
 clear bz
 generalize u1w.alloc (.cells #[] 46) = u2w at B G N Zo zz ⊢
 have zza := Nat.le_of_eq zz
 have zzb := Nat.le_of_eq zz.symm
 clear zz
 obtain ⟨Gc0, Gc1, Gc2, Gc3, Gc4, Gc5, Gc6, Gc7, Gc8⟩ := zAc G
 have Glt := (Array.getElem?_eq_some_iff.1 G).1
 obtain ⟨Nc0, Nc1, Nc2, Nc3, Nc4, Nc5, Nc6⟩ := zAe N
 have Nlt := (Array.getElem?_eq_some_iff.1 N).1
 go_upto_region 17 with fail
 clear Gc0 Gc1 Gc2 Gc3 Gc4 Gc5 Gc6 Gc7 Gc8 Glt Nc0 Nc1 Nc2 Nc3 Nc4 Nc5 Nc6 Nlt
 go_cut [89] (fun q wx => q = .bool true ∧ Below u2w.heap.size u2w wx)
 case first =>
  obtain ⟨oc0, oc1, oc2, oc3, oc4⟩ := HOC.out _ B
  have HB : Hid _ := B
  obtain ⟨Gc0, Gc1, Gc2, Gc3, Gc4, Gc5, Gc6, Gc7, Gc8⟩ := zAc G
  have Glt := (Array.getElem?_eq_some_iff.1 G).1
  obtain ⟨Nc0, Nc1, Nc2, Nc3, Nc4, Nc5, Nc6⟩ := zAe N
  have Nlt := (Array.getElem?_eq_some_iff.1 N).1
  clear B G N Zo
  rcases hno with hno | hno | hno
  ·have y2 : (kl != m.2.2.2.2.1) = true := by simp [hno]
   clear hno
   go_quiet (first | (go_at_call 60; exact Calls.quiet_of_same (HLK.out _ (zBt HB.out _))) | (go_at_call 23; exact Calls.quiet_of_same (HIN.out _)) | fail)
   go_wp2_with fail
   go_meet
   exact ⟨rfl, zBt (Below.refl _ _) _⟩
  ·have y2 : (kl != m.2.2.2.2.1) = false := by simp [hno.1]
   rw [hno.2] at HLK
   clear hno
   go_quiet (first | (go_at_call 60; exact Calls.quiet_of_same (HLK.out _ (zBt HB.out _))) | (go_at_call 23; exact Calls.quiet_of_same (HIN.out _)) | fail)
   go_wp2_with fail
   go_meet
   exact ⟨rfl, zBt (Below.refl _ _) _⟩
  ·have y2 : (kl != m.2.2.2.2.1) = false := by simp [hno.1]
   rw [hno.2.1] at HLK
   rw [hno.2.2] at HIN
   clear hno
   go_quiet (first | (go_at_call 60; exact Calls.quiet_of_same (HLK.out _ (zBt HB.out _))) | (go_at_call 23; exact Calls.quiet_of_same (HIN.out _)) | fail)
   go_wp2_with fail
   go_meet
   exact ⟨rfl, zBt (Below.refl _ _) _⟩
 case rest =>
  obtain ⟨rfl, bq⟩ := hcut
  generalize wc = u3w at bq ⊢
  have tu3w : u2w.heap.size ≤ u3w.heap.size := bq.size
  replace B := zAb B bq
  replace G := zAa bq G
  replace N := zAa bq N
  replace Zo := zA6 Zo bq
  clear bq
  obtain ⟨Gc0, Gc1, Gc2, Gc3, Gc4, Gc5, Gc6, Gc7, Gc8⟩ := zAc G
  have Glt := (Array.getElem?_eq_some_iff.1 G).1
  obtain ⟨Nc0, Nc1, Nc2, Nc3, Nc4, Nc5, Nc6⟩ := zAe N
  have Nlt := (Array.getElem?_eq_some_iff.1 N).1
  have HK : Hid _ := And.intro B (And.intro G (And.intro N (Zo)))
  clear B G N Zo
  go_wp2
  clear Gc0 Gc1 Gc2 Gc3 Gc4 Gc5 Gc6 Gc7 Gc8 Glt Nc0 Nc1 Nc2 Nc3 Nc4 Nc5 Nc6 Nlt
  obtain ⟨B, G, N, Zo⟩ := HK.out
  clear HK
  have bsz := B.size
  have zs := Zo.2
  refine bodyPost_ret (v := .tuple #[.slice (some ⟨w.heap.size + 1, 0, none⟩) 0 0, .int .i64 0]) (by simp [results, Tryz.results25, go_sem]) rfl ?_
  exact ⟨[.slice a0 c.1.length c0, .slice b0 c.2.length d0, .slice (some ⟨ob, oo, none⟩) p.length c1, .int .i64 (n : Int), .int .i64 ph, .int .i64 h.1, .int .i64 h.2.1, .slice a4 h.2.2.length c4, .slice a5 t.length c5], _, rfl, zAn.own_mono (HO.out _ B) (fun k q => .inl q), zBp.own_mono Zo.1 (fun k q => ⟨by have := q.1; omega, by have := q.2; omega⟩), G, zII B⟩
theorem l12Do_no (g : Nat) (cs us : List Value) (x : zAE) (u : zAU) (w : World) (hr : zAn.rd w cs x) (hbox : w.heap[g]? = some (.cells cs.toArray 41 (0, 0))) (hu : zAS.rd w us u) (hk : zAZ x = true) (h1 : x.2.2.1 < x.2.1.length) (ha : ¬ zCl u.2.1 (zCV (zBv (toS x))) = 0) :
    Calls Tryz.prog 61 #[.pointer (some ⟨g, 0, none⟩), zAM us] w fun e w' => e = .returned (.bool false) ∧ Below w.heap.size w w' := by
 have hp := zB4 hk
 have hat0 : 0 ≤ x.2.2.1 := hp.at0
 have hpl : x.2.1.length ≤ 30 := hp.len
 have hos := zGX hat0 h1
 have HWR : Hid (∀ W, Calls Tryz.prog 85 #[.agg #[.int .i64 (zBv (toS x)).1, .int .i64 (zBv (toS x)).2.1, .int .i64 (zBv (toS x)).2.2.1, .int .i64 (zBv (toS x)).2.2.2]] W fun e w' => e = .returned (.bool (zCV (zBv (toS x)))) ∧ Below W.heap.size W w') := fun W => zFX (zBv (toS x)) W
 obtain ⟨o, hoe⟩ : ∃ o, o = zBv (toS x) := ⟨_, rfl⟩
 rw [← hoe] at ha hos HWR
 clear hoe hp hk
 obtain ⟨ow, how⟩ : ∃ ow, ow = zCV o := ⟨_, rfl⟩
 rw [← how] at HWR ha
 clear how
 have HAS : Hid (∀ W, Calls Tryz.prog 84 #[.int .i64 u.2.1, .bool ow] W fun e w' => e = .returned (.int .i64 (zCl u.2.1 ow)) ∧ Below W.heap.size W w') := fun W => (zFN u.2.1 ow W).mono fun e w' ⟨q, r⟩ => ⟨q, zFj r⟩
 generalize zCl u.2.1 ow = ak at HAS ha
 have z9 : (ak != 0) = true := by simp [ha]
 clear ha
 obtain ⟨v0, v1, v2, v5, v6, v7, v8, rfl, r0, r1, i2, i3, r4, r5⟩ := zCs hr
 obtain ⟨a0, c0, b0, d0, e0, -⟩ := zAH r0
 simp only [List.cons.injEq, and_true] at e0
 obtain ⟨rfl, rfl⟩ := e0
 obtain ⟨a1, c1, e1, -, -, q1⟩ := r1
 simp only [List.cons.injEq, and_true] at e1
 obtain rfl := e1
 obtain ⟨a4, c4, e4, -⟩ := zAL r4
 simp only [List.cons.injEq, and_true] at e4
 obtain ⟨rfl, rfl, rfl⟩ := e4
 obtain ⟨a5, c5, e5, -, -, -⟩ := r5
 simp only [List.cons.injEq, and_true] at e5
 obtain rfl := e5
 obtain ⟨ua, uc, rfl, -, -, -, -, -⟩ := zAL hu
 obtain ⟨c, p, at_, ph, h, t⟩ := x
 simp only at *
 obtain ⟨n, rfl⟩ : ∃ n : Nat, at_ = n := ⟨at_.toNat, by omega⟩
 have hn : n < p.length := by omega
 have hn' : (n : Int) < (p.length : Int) := h1
 rw [show ((n : Int)).toNat = n by omega] at hos
 obtain ⟨ob, oo, rfl, -, -, -, -, -⟩ := zEt q1 hos
 have HOC : Hid (∀ W, Below w.heap.size w W → W.cell? ⟨ob, oo + n * 4, none⟩ = some (.int .i64 o.1) ∧ W.cell? ⟨ob, oo + n * 4 + 1, none⟩ = some (.int .i64 o.2.1) ∧ W.cell? ⟨ob, oo + n * 4 + 2, none⟩ = some (.int .i64 o.2.2.1) ∧ W.cell? ⟨ob, oo + n * 4 + 3, none⟩ = some (.int .i64 o.2.2.2) ∧ ob < W.heap.size) := fun W hb => by
  obtain ⟨b9, o9, e9, x0, x1, x2, x3, -⟩ := zEt (zAG q1 hb) hos
  simp only [Option.some.injEq, Addr.mk.injEq, and_true] at e9
  obtain ⟨rfl, rfl⟩ := e9
  exact ⟨x0, x1, x2, x3, zAi x0⟩
 have G : w.heap[g]? = some (.cells #[.slice a0 c.1.length c0, .slice b0 c.2.length d0, .slice (some ⟨ob, oo, none⟩) p.length c1, .int .i64 (n : Int), .int .i64 ph, .int .i64 h.1, .int .i64 h.2.1, .slice a4 h.2.2.length c4, .slice a5 t.length c5] 41 (0, 0)) := hbox
 clear hbox hr r0 r4 i2 i3 hos q1 hu hat0 h1
 rw [show zAM [.int .i64 u.1, .int .i64 u.2.1, .slice ua u.2.2.length uc] = .agg #[.int .i64 u.1, .int .i64 u.2.1, .slice ua u.2.2.length uc] from rfl]
 have B := Below.refl w.heap.size w
 go_enter Tryz.func61, Tryz.ntmps61
 go_upto_region 1 with fail
 generalize hu1w : w.alloc _ = u1w
 have V := boxH hu1w
 have bz := boxB hu1w
 have zV := boxL hu1w
 clear hu1w
 replace B := zAb B bz
 replace G := zAa bz G
 clear bz
 have zVa := Nat.le_of_eq zV
 have zVb := Nat.le_of_eq zV.symm
 clear zV
 obtain ⟨q0, q1, q2, q3, q4⟩ := HOC.out _ B
 obtain ⟨Gc0, Gc1, Gc2, Gc3, Gc4, Gc5, Gc6, Gc7, Gc8⟩ := zAc G
 have Glt := (Array.getElem?_eq_some_iff.1 G).1
 obtain ⟨Vc0, Vc1, Vc2⟩ := zAg V
 have Vlt := (Array.getElem?_eq_some_iff.1 V).1
 have HK : Hid _ := And.intro B (And.intro G (V))
 clear B G V
 go_region
 all_goals go_upto_region 2 with fail
 clear q0 q1 q2 q3 q4
 clear Gc0 Gc1 Gc2 Gc3 Gc4 Gc5 Gc6 Gc7 Gc8 Glt Vc0 Vc1 Vc2 Vlt
 obtain ⟨B, G, V⟩ := HK.out
 clear HK
 have O := zBj (zAy u1w (.cells #[.int .i64 o.1, .int .i64 o.2.1, .int .i64 o.2.2.1, .int .i64 o.2.2.2] 85))
 have bz : Below u1w.heap.size u1w (u1w.alloc (.cells #[.int .i64 o.1, .int .i64 o.2.1, .int .i64 o.2.2.1, .int .i64 o.2.2.2] 85)).drew := (zAf u1w (.cells #[.int .i64 o.1, .int .i64 o.2.1, .int .i64 o.2.2.1, .int .i64 o.2.2.2] 85)).drew
 have zO : u1w.heap.size + 1 ≤ (u1w.alloc (.cells #[.int .i64 o.1, .int .i64 o.2.1, .int .i64 o.2.2.1, .int .i64 o.2.2.2] 85)).drew.heap.size := Nat.le_of_eq (zAp u1w (.cells #[.int .i64 o.1, .int .i64 o.2.1, .int .i64 o.2.2.1, .int .i64 o.2.2.2] 85)).symm
 replace B := zAb B bz
 replace G := zAa bz G
 replace V := zAa bz V
 clear bz
 generalize (u1w.alloc (.cells #[.int .i64 o.1, .int .i64 o.2.1, .int .i64 o.2.2.1, .int .i64 o.2.2.2] 85)).drew = u2w at B G V O zO ⊢
 obtain ⟨Gc0, Gc1, Gc2, Gc3, Gc4, Gc5, Gc6, Gc7, Gc8⟩ := zAc G
 have Glt := (Array.getElem?_eq_some_iff.1 G).1
 obtain ⟨Vc0, Vc1, Vc2⟩ := zAg V
 have Vlt := (Array.getElem?_eq_some_iff.1 V).1
 obtain ⟨Oc0, Oc1, Oc2, Oc3⟩ := zB3 O
 have Olt := (Array.getElem?_eq_some_iff.1 O).1
 go_upto_region 2 with fail
 clear Gc0 Gc1 Gc2 Gc3 Gc4 Gc5 Gc6 Gc7 Gc8 Glt Vc0 Vc1 Vc2 Vlt Oc0 Oc1 Oc2 Oc3 Olt
 obtain ⟨Vc0, Vc1, Vc2⟩ := zAg V
 have Vk0 : ∀ n' : Cls (fun wx => Below u2w.heap.size u2w wx), n'.w.cell? ⟨w.heap.size, 0, none⟩ = some (.int .i64 u.1) := fun n' => zAd n'.h Vc0 (zAi Vc0)
 have Vk1 : ∀ n' : Cls (fun wx => Below u2w.heap.size u2w wx), n'.w.cell? ⟨w.heap.size, 1, none⟩ = some (.int .i64 u.2.1) := fun n' => zAd n'.h Vc1 (zAi Vc1)
 have Vk2 : ∀ n' : Cls (fun wx => Below u2w.heap.size u2w wx), n'.w.cell? ⟨w.heap.size, 2, none⟩ = some (.slice ua u.2.2.length uc) := fun n' => zAd n'.h Vc2 (zAi Vc2)
 clear Vc0 Vc1 Vc2
 obtain ⟨Oc0, Oc1, Oc2, Oc3⟩ := zB3 O
 have Ok0 : ∀ n' : Cls (fun wx => Below u2w.heap.size u2w wx), n'.w.cell? ⟨u1w.heap.size, 0, none⟩ = some (.int .i64 o.1) := fun n' => zAd n'.h Oc0 (zAi Oc0)
 have Ok1 : ∀ n' : Cls (fun wx => Below u2w.heap.size u2w wx), n'.w.cell? ⟨u1w.heap.size, 1, none⟩ = some (.int .i64 o.2.1) := fun n' => zAd n'.h Oc1 (zAi Oc1)
 have Ok2 : ∀ n' : Cls (fun wx => Below u2w.heap.size u2w wx), n'.w.cell? ⟨u1w.heap.size, 2, none⟩ = some (.int .i64 o.2.2.1) := fun n' => zAd n'.h Oc2 (zAi Oc2)
 have Ok3 : ∀ n' : Cls (fun wx => Below u2w.heap.size u2w wx), n'.w.cell? ⟨u1w.heap.size, 3, none⟩ = some (.int .i64 o.2.2.2) := fun n' => zAd n'.h Oc3 (zAi Oc3)
 clear Oc0 Oc1 Oc2 Oc3
 have HFX : Hid _ := And.intro B (And.intro G (And.intro V (O)))
 clear B G V O
 refine zA8 (fun wx => Below u2w.heap.size u2w wx) (by kernel_rfl) (by kernel_rfl) ((Below.refl _ u2w).drew) ?_
 intro hne
 repeat (quiet_step (first | (go_at_call 85; exact zAz (HWR.out _) (fun w' hc bb => zAb hc bb)) | (go_at_call 84; exact zAz (HAS.out _) (fun w' hc bb => zAb hc bb))))
 refine wpQuiet_nil ?_
 intro u3w bq
 clear Vk0 Vk1 Vk2 Ok0 Ok1 Ok2 Ok3 hne
 obtain ⟨B, G, V, O⟩ := HFX.out
 clear HFX
 have tu3w : u2w.heap.size ≤ u3w.heap.size := bq.size
 replace B := zAb B bq
 replace G := zAa bq G
 replace V := zAa bq V
 replace O := zAa bq O
 clear bq
 obtain ⟨Gc0, Gc1, Gc2, Gc3, Gc4, Gc5, Gc6, Gc7, Gc8⟩ := zAc G
 have Glt := (Array.getElem?_eq_some_iff.1 G).1
 obtain ⟨Vc0, Vc1, Vc2⟩ := zAg V
 have Vlt := (Array.getElem?_eq_some_iff.1 V).1
 obtain ⟨Oc0, Oc1, Oc2, Oc3⟩ := zB3 O
 have Olt := (Array.getElem?_eq_some_iff.1 O).1
 have HB : Hid _ := B
 clear B G V O
 go_wp2
 go_ret
 exact ⟨rfl, HB.out⟩
theorem zJA {w w' : World} {T : zAX} {ds : List Value} {x : zAE} (h : zAn.own w' T ds x) (hT : ∀ k, T k → k < w'.heap.size) :
    (zBP zAn zBp).own (w'.alloc (.cells #[] 46)) (fun k => T k ∨ (w'.heap.size ≤ k ∧ k < (w'.alloc (.cells #[] 46)).heap.size)) (ds ++ [.slice (some ⟨w'.heap.size, 0, none⟩) 0 0]) (x, []) := by
 have al := zAp w' (.cells #[] 46)
 exact zDL (zAn.own_keep h (zAh (zAf w' _))) (zC3 w') (fun k hk => .inl hk) (fun k hk => .inr ⟨by omega, by omega⟩) (fun k ha hb => by have := hT k ha; omega)
theorem zNG {w : World} {S : zAX} {v0 v1 v2 v5 v6 v7 v8 : Value} {c : zAu} {p : List OpD} {a ph ph' : Int} {u : zAU} {t : List Int} (h : zAn.own w S [v0, v1, v2, .int .i64 a, .int .i64 ph, v5, v6, v7, v8] (c, p, a, ph, u, t)) (hi : zBk ph') : zAn.own w S [v0, v1, v2, .int .i64 a, .int .i64 ph', v5, v6, v7, v8] (c, p, a, ph', u, t) := by
 obtain ⟨u0, u1, u2, u5, u6, u7, u8, S0, S1, S4, S5, e, i2, i3, o0, o1, o4, o5, sb0, sb1, sb4, sb5, d01, d04, d05, d14, d15, d45⟩ := zBd h
 simp only [List.cons.injEq, and_true] at e
 obtain ⟨rfl, rfl, rfl, -, -, rfl, rfl, rfl, rfl⟩ := e
 exact zCo (x := (c, p, a, ph', u, t)) i2 hi o0 o1 o4 o5 sb0 sb1 sb4 sb5 d01 d04 d05 d14 d15 d45
end Go.Proofs.YtoihjejenjcokaaGreatDoor
