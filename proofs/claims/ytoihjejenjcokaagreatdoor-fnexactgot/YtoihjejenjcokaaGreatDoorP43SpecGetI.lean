import Derived.Test.YtoihjejenjcokaaGreatDoorP00Box
import Derived.Test.YtoihjejenjcokaaGreatDoorP34SpecGetN
import Derived.Test.YtoihjejenjcokaaGreatDoorP42SpecGetP
import Derived.Test.YtoihjejenjcokaaGreatDoorP29CoreEvict
import Derived.Test.YtoihjejenjcokaaGreatDoorP09Lines6
import Derived.BigQuiet
import Derived.Test.YtoihjejenjcokaaGreatDoorP41SpecAsked
import Derived.Test.YtoihjejenjcokaaGreatDoorP30GotQ
namespace Go.Proofs.YtoihjejenjcokaaGreatDoor
set_option maxHeartbeats 8000000
set_option maxRecDepth 20000
open Go.ChangeShapes Go.WideShapes Go.ChangeAt Go.RowKit
set_option linter.unusedVariables false
noncomputable def zFc (x : zAE) (u : zAU) : Bool := decide (zCl u.2.1 (zCV (zBv (toS x))) = 0) && didB x u
theorem zNH {l s : Int} {d : List Int} (hl : 0 ≤ l ∧ l ≤ 15) (hs : zAQ s 1 3 = true) (hd : isL d = true) : zBi isL ((l, s, d) : zAU) = true := by
 simp only [zBi, decide_eq_true_eq]
 simp only [zAQ, decide_eq_true_eq] at hs
 exact ⟨hl, hs, hd⟩
theorem zGa {o : OpD} {l : Int} (h : zBN o = true) (e : zBf o = l) : 0 ≤ l ∧ l ≤ 15 := by
 have := zGQ h
 rw [← e]
 exact ⟨by omega, by omega⟩
theorem do_all {x : zAE} {u : zAU} (hk : zAZ x = true) (hf : zBi isL u = true) : doS (toS x) u = if zFc x u then some (toS (zJ3 x u)) else none := by
 have hP := zB4 hk
 have hok : okc x.1 := hP.ok
 unfold zFc
 unfold doS
 dsimp only
 by_cases ha : zCl u.2.1 (zCV (zBv (toS x))) = 0
 ·rw [if_pos ha, decide_eq_true ha, zK2 hok]
  unfold didB zHh
  cases hb : (zB1 x.1 (u.1, (if zCV (zBv (toS x)) then (3 : Int) else u.2.1), u.2.2.set ((zBv (toS x)).2.1 % 2).toNat (zIH (zBv (toS x)) (u.2.2.getD ((zBv (toS x)).2.1 % 2).toNat 0)).1)).2
  ·rfl
  ·rfl
 ·rw [if_neg ha, decide_eq_false ha]
  rfl
theorem zNI (S : zAX) (g : Nat) (cs us : List Value) (x : zAE) (u : zAU) (w : World) (ho : zAn.own w S cs x) (hS : ∀ k, S k → k < w.heap.size) (hg : ¬ S g) (hbox : w.heap[g]? = some (.cells cs.toArray 41 (0, 0))) (hu : zAS.rd w us u) (hk : zAZ x = true) (h1 : x.2.2.1 < x.2.1.length) (hf : zBi isL u = true) :
    Calls Tryz.prog 61 #[.pointer (some ⟨g, 0, none⟩), zAM us] w fun e w' => ∃ ds, e = .returned (.bool (zFc x u)) ∧ zAn.own w' (fun k => S k ∨ (w.heap.size ≤ k ∧ k < w'.heap.size)) ds (if zFc x u then zJ3 x u else x) ∧ w'.heap[g]? = some (.cells ds.toArray 41 (0, 0)) ∧ Chg (fun k => S k ∨ k = g) w w' := by
 by_cases ha : zCl u.2.1 (zCV (zBv (toS x))) = 0
 ·refine (l12Do_u S g cs us x u w ho hS hg hbox hu hk h1 hf ha).mono ?_
  rintro e w' ⟨ds, rfl, a, b, c⟩
  have e1 : zFc x u = didB x u := by unfold zFc; rw [decide_eq_true ha, Bool.true_and]
  rw [e1]
  exact ⟨ds, rfl, a, b, c⟩
 ·refine (l12Do_no g cs us x u w (zAn.own_rd ho) hbox hu hk h1 ha).mono ?_
  rintro e w' ⟨rfl, b⟩
  have e1 : zFc x u = false := by unfold zFc; rw [decide_eq_false ha, Bool.false_and]
  rw [e1]
  exact ⟨cs, rfl, zAn.own_mono (zAn.own_keep ho (zAh b)) (fun k q => .inl q), zAa b hbox, zA9 b⟩
theorem zJB (S : zAX) (g : Nat) (cs ns : List Value) (x : zAE) (id : Int) (m : zB5) (w : World) (ho : zAn.own w S cs x) (hS : ∀ k, S k → k < w.heap.size) (hg : ¬ S g) (hbox : w.heap[g]? = some (.cells cs.toArray 41 (0, 0))) (hm : zBy.rd w ns m) (hk : zAZ x = true) (hkd : m.2.2.2.1 = 11) (hp : x.2.2.2.1 = 2) (hid : zBk id) (hl : zBf (zBv (toS x)) = m.2.2.2.2.1) (hd : isL m.2.2.2.2.2.1 = true) (hf : zAQ m.2.2.2.2.2.2 1 3 = true) :
    Calls Tryz.prog 25 #[.pointer (some ⟨g, 0, none⟩), .int .i64 id, zAM ns] w fun e w' => GtP S g w (if zFc x (m.2.2.2.2.1, m.2.2.2.2.2.2, m.2.2.2.2.2.1) then ((zJ3 x (m.2.2.2.2.1, m.2.2.2.2.2.2, m.2.2.2.2.2.1)).1, (zJ3 x (m.2.2.2.2.1, m.2.2.2.2.2.2, m.2.2.2.2.2.1)).2.1, (zJ3 x (m.2.2.2.2.1, m.2.2.2.2.2.2, m.2.2.2.2.2.1)).2.2.1, 0, (zJ3 x (m.2.2.2.2.1, m.2.2.2.2.2.2, m.2.2.2.2.2.1)).2.2.2.2.1, (zJ3 x (m.2.2.2.2.1, m.2.2.2.2.2.2, m.2.2.2.2.2.1)).2.2.2.2.2) else x) (if zFc x (m.2.2.2.2.1, m.2.2.2.2.2.2, m.2.2.2.2.2.1) then [msg 2 id 4 10 m.2.2.2.2.1 [] 0] else []) (if zFc x (m.2.2.2.2.1, m.2.2.2.2.2.2, m.2.2.2.2.2.1) then 2 else 0) e w' := by
 have hP := zB4 hk
 have h1 : x.2.2.1 < (x.2.1.length : Int) := hP.wait hp
 have hat0 : 0 ≤ x.2.2.1 := hP.at0
 have hpl : x.2.1.length ≤ 30 := hP.len
 have hoo : zBN (zBv (toS x)) = true := hP.ops _ (zEa hP.at0 h1)
 have hos := zGX hat0 h1
 have HDO : Hid (∀ (us : List Value) (W : World), Below w.heap.size w W → zAS.rd W us (m.2.2.2.2.1, m.2.2.2.2.2.2, m.2.2.2.2.2.1) → Calls Tryz.prog 61 #[.pointer (some ⟨g, 0, none⟩), zAM us] W fun e w' => ∃ ds, e = .returned (.bool (zFc x (m.2.2.2.2.1, m.2.2.2.2.2.2, m.2.2.2.2.2.1))) ∧ zAn.own w' (fun k => S k ∨ (W.heap.size ≤ k ∧ k < w'.heap.size)) ds (if zFc x (m.2.2.2.2.1, m.2.2.2.2.2.2, m.2.2.2.2.2.1) then zJ3 x (m.2.2.2.2.1, m.2.2.2.2.2.2, m.2.2.2.2.2.1) else x) ∧ w'.heap[g]? = some (.cells ds.toArray 41 (0, 0)) ∧ Chg (fun k => S k ∨ k = g) W w') := fun us W hb hu => zNI S g cs us x _ W (zAn.own_keep ho (zAh hb)) (fun k q => Nat.lt_of_lt_of_le (hS k q) hb.size) hg (zAa hb hbox) hu hk h1 (zNH (zGa hoo hl) hf hd)
 obtain ⟨db, hdb⟩ : ∃ db, db = zFc x (m.2.2.2.2.1, m.2.2.2.2.2.2, m.2.2.2.2.2.1) := ⟨_, rfl⟩
 rw [← hdb] at HDO ⊢
 clear hdb
 obtain ⟨yx, hyx⟩ : ∃ yx, yx = zJ3 x (m.2.2.2.2.1, m.2.2.2.2.2.2, m.2.2.2.2.2.1) := ⟨_, rfl⟩
 rw [← hyx] at HDO ⊢
 clear hyx
 obtain ⟨o, hoe⟩ : ∃ o, o = zBv (toS x) := ⟨_, rfl⟩
 rw [← hoe] at hos hoo hl
 clear hoe
 obtain ⟨kl, hkl⟩ : ∃ kl, kl = zBf o := ⟨_, rfl⟩
 rw [← hkl] at hl
 obtain ⟨hq0, hq1⟩ := zFK hoo
 have htd2 : Int.tdiv o.2.1 2 = kl := by rw [hkl]; unfold zBf; rw [Int.tdiv_eq_ediv_of_nonneg hq0]
 have hdv : o.2.1 / 2 = kl := hkl.symm
 have hk6 : zBk kl := by rw [hkl]; unfold zBf; constructor <;> omega
 have hwk : IntKind.i64.wrap kl = kl := by rw [IntKind.wrap_i64]; have := hk6.1; have := hk6.2; omega
 obtain ⟨ma, mc, rfl, im0, im1, im2, im3, im4, im6, ml1, ml2, mq⟩ := zBB hm
 obtain ⟨v0, v1, v2, v5, v6, v7, v8, S0, S1, S4, S5, rfl, i2, i3, o0, o1, o4, o5, sb0, sb1, sb4, sb5, d01, d04, d05, d14, d15, d45⟩ := zBd ho
 have r0 := zAB.own_rd o0
 obtain ⟨a0, c0, b0, d0, e0, -⟩ := zAH r0
 simp only [List.cons.injEq, and_true] at e0
 obtain ⟨rfl, rfl⟩ := e0
 obtain ⟨a1, c1, e1, -, -, q1⟩ := zBX.own_rd o1
 simp only [List.cons.injEq, and_true] at e1
 obtain rfl := e1
 have r4 := zAS.own_rd o4
 obtain ⟨a4, c4, e4, ih1, ih2, -, -, q4⟩ := zAL r4
 simp only [List.cons.injEq, and_true] at e4
 obtain ⟨rfl, rfl, rfl⟩ := e4
 obtain ⟨a5, c5, e5, -⟩ := zA5.own_rd o5
 simp only [List.cons.injEq, and_true] at e5
 obtain rfl := e5
 have HLK : Hid (∀ W, Below w.heap.size w W → Calls Tryz.prog 60 #[.slice ma m.2.2.2.2.2.1.length mc] W fun e w' => e = .returned (.bool (isL m.2.2.2.2.2.1)) ∧ w' = W) := fun W hb => zD3 ma m.2.2.2.2.2.1 mc W (zCw (zAG mq hb))
 have HIN : Hid (∀ W, Calls Tryz.prog 23 #[.int .i64 m.2.2.2.2.2.2, .int .i64 1, .int .i64 3] W fun e w' => e = .returned (.bool (zAQ m.2.2.2.2.2.2 1 3)) ∧ w' = W) := fun W => zBa m.2.2.2.2.2.2 1 3 W
 have HUW : Hid (∀ W, Below w.heap.size w W → zAS.rd W [.int .i64 m.2.2.2.2.1, .int .i64 m.2.2.2.2.2.2, .slice ma m.2.2.2.2.2.1.length mc] (m.2.2.2.2.1, m.2.2.2.2.2.2, m.2.2.2.2.2.1)) := fun W hb => rd_way im4 im6 ml1 ml2 (zAG mq hb)
 have him : zBk m.2.2.2.2.1 := im4
 rw [hd] at HLK
 rw [hf] at HIN
 have HO : Hid (∀ W, Below w.heap.size w W → zAn.own W S [.slice a0 x.1.1.length c0, .slice b0 x.1.2.length d0, .slice a1 x.2.1.length c1, .int .i64 x.2.2.1, .int .i64 x.2.2.2.1, .int .i64 x.2.2.2.2.1.1, .int .i64 x.2.2.2.2.1.2.1, .slice a4 x.2.2.2.2.1.2.2.length c4, .slice a5 x.2.2.2.2.2.length c5] x) := fun W hb => zAn.own_keep ho (zAh hb)
 have HSS : Hid _ := And.intro hS hg
 obtain ⟨c, p, at_, ph, h, t⟩ := x
 simp only at *
 obtain ⟨n, rfl⟩ : ∃ n : Nat, at_ = n := ⟨at_.toNat, by omega⟩
 have hn : n < p.length := by omega
 have hn' : (n : Int) < (p.length : Int) := h1
 rw [show ((n : Int)).toNat = n by omega] at hos
 obtain ⟨ob, oo, rfl, -, -, -, -, -⟩ := zEt q1 hos
 have HOC : Hid (∀ W, Below w.heap.size w W → W.cell? ⟨ob, oo + n * 4, none⟩ = some (.int .i64 o.1) ∧ W.cell? ⟨ob, oo + n * 4 + 1, none⟩ = some (.int .i64 o.2.1) ∧ W.cell? ⟨ob, oo + n * 4 + 2, none⟩ = some (.int .i64 o.2.2.1) ∧ W.cell? ⟨ob, oo + n * 4 + 3, none⟩ = some (.int .i64 o.2.2.2) ∧ ob < W.heap.size) := fun W hb => by
  obtain ⟨b9, o9, e9, x0, x1, x2, x3, -⟩ := zEt (zAG q1 hb) hos
  simp only [Option.some.injEq, Addr.mk.injEq, and_true] at e9
  obtain ⟨rfl, rfl⟩ := e9
  exact ⟨x0, x1, x2, x3, zAi x0⟩
 have G : w.heap[g]? = some (.cells #[.slice a0 c.1.length c0, .slice b0 c.2.length d0, .slice (some ⟨ob, oo, none⟩) p.length c1, .int .i64 (n : Int), .int .i64 ph, .int .i64 h.1, .int .i64 h.2.1, .slice a4 h.2.2.length c4, .slice a5 t.length c5] 41 (0, 0)) := hbox
 have gl := (Array.getElem?_eq_some_iff.1 G).1
 have z6 : (m.2.2.2.1 == 6) = false := by simp [hkd]
 have z7 : (m.2.2.2.1 == 7) = false := by simp [hkd]
 have z12 : (m.2.2.2.1 == 12) = false := by simp [hkd]
 have z11 : (m.2.2.2.1 == 11) = true := by simp [hkd]
 have y1 : (ph != 2) = false := by simp [hp]
 clear ho hS hg r0 r4 q4 o0 o1 o4 o5 sb0 sb1 sb4 sb5 d01 d04 d05 d14 d15 d45 i2 i3 ih1 ih2 hm hbox im0 im1 im2 im3 im4 im6 hkd hp hP h1 hat0 hoo hos hk q1 hkl hq0 hq1 ml1 ml2 mq hd hf HO
 have y2 : (kl != m.2.2.2.2.1) = false := by simp [hl]
 clear hl
 rw [show zAM [.int .i64 m.1, .int .i64 m.2.1, .int .i64 m.2.2.1, .int .i64 m.2.2.2.1, .int .i64 m.2.2.2.2.1, .slice ma m.2.2.2.2.2.1.length mc, .int .i64 m.2.2.2.2.2.2] = .agg #[.int .i64 m.1, .int .i64 m.2.1, .int .i64 m.2.2.1, .int .i64 m.2.2.2.1, .int .i64 m.2.2.2.2.1, .slice ma m.2.2.2.2.2.1.length mc, .int .i64 m.2.2.2.2.2.2] from rfl]
 have B := Below.refl w.heap.size w
 go_enter Tryz.func25, Tryz.ntmps25
 go_upto_region 1 with fail
 generalize hu1w : w.alloc _ = u1w
 have N := boxH hu1w
 have bz := boxB hu1w
 have zN := boxL hu1w
 clear hu1w
 replace B := zAb B bz
 replace G := zAa bz G
 clear bz
 have zNa := Nat.le_of_eq zN
 have zNb := Nat.le_of_eq zN.symm
 clear zN
 obtain ⟨Gc0, Gc1, Gc2, Gc3, Gc4, Gc5, Gc6, Gc7, Gc8⟩ := zAc G
 have Glt := (Array.getElem?_eq_some_iff.1 G).1
 obtain ⟨Nc0, Nc1, Nc2, Nc3, Nc4, Nc5, Nc6⟩ := zAe N
 have Nlt := (Array.getElem?_eq_some_iff.1 N).1
 go_upto_region 2 with fail
 clear Gc0 Gc1 Gc2 Gc3 Gc4 Gc5 Gc6 Gc7 Gc8 Glt Nc0 Nc1 Nc2 Nc3 Nc4 Nc5 Nc6 Nlt
 have Zo : zCp zBp (w.heap.size + 1) (w.heap.size + 1 + 1) (u1w.alloc (.cells #[] 46)) [.slice (some ⟨w.heap.size + 1, 0, none⟩) 0 0] [] := by
  have q := zC3 (e := 46) (R := zBy) u1w
  rw [show u1w.heap.size = w.heap.size + 1 from by omega] at q
  exact And.intro (zBp.own_mono q (fun k z => by have z2 : k = w.heap.size + 1 := z; exact ⟨by omega, by omega⟩)) (by rw [zAp]; omega)
 have bz := zAf u1w (.cells #[] 46)
 have zz := zAp u1w (.cells #[] 46)
 replace B := zAb B bz
 replace G := zAa bz G
 replace N := zAa bz N
 clear bz
 generalize u1w.alloc (.cells #[] 46) = u2w at B G N Zo zz ⊢
 have zza := Nat.le_of_eq zz
 have zzb := Nat.le_of_eq zz.symm
 clear zz
 obtain ⟨Gc0, Gc1, Gc2, Gc3, Gc4, Gc5, Gc6, Gc7, Gc8⟩ := zAc G
 have Glt := (Array.getElem?_eq_some_iff.1 G).1
 obtain ⟨Nc0, Nc1, Nc2, Nc3, Nc4, Nc5, Nc6⟩ := zAe N
 have Nlt := (Array.getElem?_eq_some_iff.1 N).1
 go_upto_region 17 with fail
 clear Gc0 Gc1 Gc2 Gc3 Gc4 Gc5 Gc6 Gc7 Gc8 Glt Nc0 Nc1 Nc2 Nc3 Nc4 Nc5 Nc6 Nlt
 go_cut [89] (fun q wx => q = .bool false ∧ Below u2w.heap.size u2w wx)
 case first =>
  obtain ⟨oc0, oc1, oc2, oc3, oc4⟩ := HOC.out _ B
  have HB : Hid _ := B
  obtain ⟨Gc0, Gc1, Gc2, Gc3, Gc4, Gc5, Gc6, Gc7, Gc8⟩ := zAc G
  have Glt := (Array.getElem?_eq_some_iff.1 G).1
  obtain ⟨Nc0, Nc1, Nc2, Nc3, Nc4, Nc5, Nc6⟩ := zAe N
  have Nlt := (Array.getElem?_eq_some_iff.1 N).1
  clear B G N Zo
  go_quiet (first | (go_at_call 60; exact Calls.quiet_of_same (HLK.out _ (zBt HB.out _))) | (go_at_call 23; exact Calls.quiet_of_same (HIN.out _)) | fail)
  go_wp2_with fail
  go_meet
  exact ⟨rfl, zBt (Below.refl _ _) _⟩
 case rest =>
  obtain ⟨rfl, bq⟩ := hcut
  generalize wc = u3w at bq ⊢
  have tu3w : u2w.heap.size ≤ u3w.heap.size := bq.size
  replace B := zAb B bq
  replace G := zAa bq G
  replace N := zAa bq N
  replace Zo := zA6 Zo bq
  clear bq
  obtain ⟨Gc0, Gc1, Gc2, Gc3, Gc4, Gc5, Gc6, Gc7, Gc8⟩ := zAc G
  have Glt := (Array.getElem?_eq_some_iff.1 G).1
  obtain ⟨Nc0, Nc1, Nc2, Nc3, Nc4, Nc5, Nc6⟩ := zAe N
  have Nlt := (Array.getElem?_eq_some_iff.1 N).1
  go_wp2_with fail
  clear Gc0 Gc1 Gc2 Gc3 Gc4 Gc5 Gc6 Gc7 Gc8 Glt Nc0 Nc1 Nc2 Nc3 Nc4 Nc5 Nc6 Nlt
  rw [show (Value.agg #[.int .i64 m.2.2.2.2.1, .int .i64 m.2.2.2.2.2.2, .slice ma m.2.2.2.2.2.1.length mc]) = zAM [.int .i64 m.2.2.2.2.1, .int .i64 m.2.2.2.2.2.2, .slice ma m.2.2.2.2.2.1.length mc] from rfl]
  refine (HDO.out [.int .i64 m.2.2.2.2.1, .int .i64 m.2.2.2.2.2.2, .slice ma m.2.2.2.2.2.1.length mc] _ B (HUW.out _ B)).mono ?_
  rintro e wd ⟨ds, rfl, co, gr, ch⟩
  have bsz := B.size
  have szd := ch.size
  have CH : Chg (fun j => S j ∨ j = g) w wd := (zII B).trans ch
  replace Zo : zCp zBp (w.heap.size + 1) (w.heap.size + 1 + 1) wd [.slice (some ⟨w.heap.size + 1, 0, none⟩) 0 0] [] := ⟨zAO Zo.1 ch (fun k a b => by rcases b with b | b; (have := HSS.out.1 _ b; have := a.1; omega); (have := a.1; omega)), by have := Zo.2; omega⟩
  have zos := Zo.2
  replace N := (ch.block w.heap.size (Array.getElem?_eq_some_iff.1 N).1 (fun q => by rcases q with q | q; (have := HSS.out.1 _ q; omega); omega)).trans N
  clear ch B G
  cases db
  ·have HZ : Hid _ := And.intro co (And.intro gr (And.intro CH Zo))
   clear co gr CH Zo N
   go_wp2
   obtain ⟨co, gr, CH, Zo⟩ := HZ.out
   rw [if_neg Bool.false_ne_true] at co
   refine bodyPost_ret (v := .tuple #[.slice (some ⟨w.heap.size + 1, 0, none⟩) 0 0, .int .i64 0]) (by simp [results, Tryz.results25, go_sem]) rfl ?_
   exact ⟨ds, _, rfl, zAn.own_mono co (fun k q => by rcases q with q | q; exact .inl q; exact .inr ⟨by omega, q.2⟩), zBp.own_mono Zo.1 (fun k q => ⟨by have := q.1; omega, by have := q.2; omega⟩), gr, CH⟩
  ·rw [if_pos rfl] at co
   obtain ⟨yy, hyy⟩ : ∃ yy, yy = yx := ⟨_, rfl⟩
   rw [← hyy] at co
   clear Zo
   obtain ⟨ka, kc, kb, kd, la, lc, na, nc, pa, pc, rfl⟩ := zCy (zAn.own_rd co)
   replace gr : wd.heap[g]? = some (.cells #[.slice ka yy.1.1.length kc, .slice kb yy.1.2.length kd, .slice la yy.2.1.length lc, .int .i64 yy.2.2.1, .int .i64 yy.2.2.2.1, .int .i64 yy.2.2.2.2.1.1, .int .i64 yy.2.2.2.2.1.2.1, .slice na yy.2.2.2.2.1.2.2.length nc, .slice pa yy.2.2.2.2.2.length pc] 41 (0, 0)) := gr
   obtain ⟨y0_, y1_, y2_, y3_, y4_, y5_, y6_, y7_, y8_⟩ := zAc gr
   obtain ⟨f0_, f1_, f2_, f3_, f4_, f5_, f6_, f7_, f8_⟩ := zAr gr
   have gl2 := (Array.getElem?_eq_some_iff.1 gr).1
   obtain ⟨nc0, nc1, nc2, nc3, nc4, nc5, nc6⟩ := zAe N
   have nlt := (Array.getElem?_eq_some_iff.1 N).1
   have HZ : Hid _ := And.intro co (And.intro gr (And.intro CH hyy))
   clear co gr CH hyy N
   have ne7 : ¬ (g = w.heap.size) := by omega
   have ne8 : ¬ (w.heap.size = g) := by omega
   go_wp2
   obtain ⟨co, gr, CH, hyy⟩ := HZ.out
   obtain ⟨hS, hg⟩ := HSS.out
   have FS : (zAo wd g 4 [.int .i64 0]).heap.size = wd.heap.size := zAj _ _ _
   have bb := zAf (zAo wd g 4 [.int .i64 0]) (.cells #[.int .i64 2, .int .i64 id, .int .i64 4, .int .i64 10, .int .i64 m.2.2.2.2.1, .slice none 0 0, .int .i64 0] 46)
   have al := zAp (zAo wd g 4 [.int .i64 0]) (.cells #[.int .i64 2, .int .i64 id, .int .i64 4, .int .i64 10, .int .i64 m.2.2.2.2.1, .slice none 0 0, .int .i64 0] 46)
   obtain ⟨yc, yp, ya, yh, yw, yt⟩ := yy
   simp only at co gr
   have CO := zAn.own_keep (zAs (g := g) (o := 4) (vs := [.int .i64 0]) (zNG (ph' := 0) co (by constructor <;> decide)) (fun q => by rcases q with q | q; exact hg q; omega)) (zAh bb)
   have OM := zFJ (e := 46) (R := zBy) (cs := [.int .i64 2, .int .i64 id, .int .i64 4, .int .i64 10, .int .i64 m.2.2.2.2.1, .slice none 0 0, .int .i64 0]) (w := (zAo wd g 4 [.int .i64 0])) (S := fun _ => False) (by decide) (zBR (f0 := 2) (f1 := id) (f2 := 4) (f3 := 10) (f4 := m.2.2.2.2.1) (f6 := 0) (by constructor <;> decide) hid (by constructor <;> decide) (by constructor <;> decide) him (by constructor <;> decide) (zBA _ _)) (fun k q => q.elim)
   rw [FS] at OM
   have GR := zAa bb (zAC (g := g) [.int .i64 0] 4 gr)
   have CC : Chg (fun j => S j ∨ j = g) w ((zAo wd g 4 [.int .i64 0]).alloc (.cells #[.int .i64 2, .int .i64 id, .int .i64 4, .int .i64 10, .int .i64 m.2.2.2.2.1, .slice none 0 0, .int .i64 0] 46)) := (CH.trans ((zBU [.int .i64 0] 4 wd (g := g)).mono fun k q => .inr q)).trans (zA9 bb)
   have FQ : GtP S g w (yx.1, yx.2.1, yx.2.2.1, 0, yx.2.2.2.2.1, yx.2.2.2.2.2) [msg 2 id 4 10 m.2.2.2.2.1 [] 0] 2 (.returned (.tuple #[.slice (some ⟨wd.heap.size, 0, none⟩) 1 1, .int .i64 2])) ((zAo wd g 4 [.int .i64 0]).alloc (.cells #[.int .i64 2, .int .i64 id, .int .i64 4, .int .i64 10, .int .i64 m.2.2.2.2.1, .slice none 0 0, .int .i64 0] 46)) := by
    rw [← hyy]
    exact ⟨_, _, rfl, zAn.own_mono CO (fun j q => by rw [al, FS]; rcases q with q | q; exact .inl q; exact .inr ⟨by omega, by omega⟩), zBp.own_mono OM (fun j q => by refine ⟨?_, ?_⟩; (rcases q with q | q; exact q.elim; omega); (rw [al, FS]; rcases q with q | q; exact q.elim; omega)), GR, CC⟩
   simp only [zA0, zA3] at FQ
   clear CO OM GR CC bb al FS co gr CH hyy
   refine bodyPost_ret (v := .tuple #[.slice (some ⟨wd.heap.size, 0, none⟩) 1 1, .int .i64 2]) (by simp [results, Tryz.results25, go_sem]) rfl ?_
   exact FQ
theorem l12Get_u (S : zAX) (g : Nat) (cs ns : List Value) (x : zAE) (id : Int) (m : zB5) (w : World) (ho : zAn.own w S cs x) (hS : ∀ k, S k → k < w.heap.size) (hg : ¬ S g) (hbox : w.heap[g]? = some (.cells cs.toArray 41 (0, 0))) (hm : zBy.rd w ns m) (hk : zAZ x = true) (hid : zBk id) :
    Calls Tryz.prog 25 #[.pointer (some ⟨g, 0, none⟩), .int .i64 id, zAM ns] w fun e w' => GtP S g w (ofS (zBO (toS x) id m).1) (zBO (toS x) id m).2.1 (zBO (toS x) id m).2.2 e w' := by
 by_cases h6 : m.2.2.2.1 = 6
 ·cases hb : zAQ m.2.2.2.2.1 0 15
  ·rw [zKC hk hb]
   exact zKE S g cs ns x id m w ho hS hg hbox hm h6 hb
  ·rw [zGZ (.inl h6) hb, zLw]
   exact zKG S g cs ns x id m w ho hS hg hbox hm hk hid h6 hb
 by_cases h7 : m.2.2.2.1 = 7
 ·cases hb : zAQ m.2.2.2.2.1 0 15
  ·rw [zKC hk hb]
   exact zKF S g cs ns x id m w ho hS hg hbox hm h7 hb
  ·rw [zGZ (.inr h7) hb, zLw]
   exact zKH S g cs ns x id m w ho hS hg hbox hm hk hid h7 hb
 by_cases h12 : m.2.2.2.1 = 12
 ·by_cases hp : x.2.2.2.1 = 1
  ·by_cases hl : x.2.2.2.2.1.1 = m.2.2.2.2.1
   ·rw [zHc h12 hp hl]
    exact zMp S g cs ns x id m w ho hS hg hbox hm h12 hp hl
   ·rw [zEE h12 (.inr hl)]
    exact zFY S g cs ns x id m w ho hS hg hbox hm h12 (.inr hl)
  ·rw [zEE h12 (.inl hp)]
   exact zFY S g cs ns x id m w ho hS hg hbox hm h12 (.inl hp)
 by_cases h11 : m.2.2.2.1 = 11
 ·have hG : zBO (toS x) id m = (if (toS x).phase ≠ 2 ∨ zBf (zBv (toS x)) ≠ zAt m ∨ isL (zBJ m) = false ∨ zAQ (zB9 m) 1 3 = false then (toS x, [], 0) else match doS (toS x) (zAt m, zB9 m, zBJ m) with | some c' => ({ c' with phase := 0 }, [msg 2 id 4 10 (zAt m) [] 0], 2) | none => (toS x, [], 0) : CoreS × List zB5 × Int) := by
    have h12' : ¬ zBm m = 12 := h12
    have h11' : zBm m = 11 := h11
    unfold zBO
    rw [if_neg (by rintro (q | q); exact h6 q; exact h7 q), if_neg h12', if_pos h11']
    rfl
  by_cases hp : x.2.2.2.1 = 2
  ·by_cases hl : zBf (zBv (toS x)) = m.2.2.2.2.1
   ·cases hd : isL m.2.2.2.2.2.1
    ·rw [hG, if_pos (.inr (.inr (.inl hd)))]
     exact zCH S g cs ns x id m w ho hS hg hbox hm hk h11 hp (.inr (.inl ⟨hl, hd⟩))
    ·cases hf : zAQ m.2.2.2.2.2.2 1 3
     ·rw [hG, if_pos (.inr (.inr (.inr hf)))]
      exact zCH S g cs ns x id m w ho hS hg hbox hm hk h11 hp (.inr (.inr ⟨hl, hd, hf⟩))
     ·have hoo := (zB4 hk).ops _ (zEa (zB4 hk).at0 ((zB4 hk).wait hp))
      have hfull := zNH (zGa hoo hl) hf hd
      have hda := do_all hk hfull
      have hda' : doS (toS x) (zAt m, zB9 m, zBJ m) = _ := hda
      rw [hG, if_neg (by rintro (q | q | q | q); exact q hp; exact q hl; (have q' : isL m.2.2.2.2.2.1 = false := q; rw [hd] at q'; cases q'); (have q' : zAQ m.2.2.2.2.2.2 1 3 = false := q; rw [hf] at q'; cases q')), hda']
      have K := zJB S g cs ns x id m w ho hS hg hbox hm hk h11 hp hid hl hd hf
      cases hb : zFc x (m.2.2.2.2.1, m.2.2.2.2.2.2, m.2.2.2.2.2.1)
      ·rw [hb] at K
       exact K
      ·rw [hb] at K
       exact K
   ·rw [hG, if_pos (.inr (.inl hl))]
    exact zCH S g cs ns x id m w ho hS hg hbox hm hk h11 hp (.inl hl)
  ·rw [hG, if_pos (.inl hp)]
   exact zFM S g cs ns x id m w ho hS hg hbox hm h11 hp
 ·rw [zIE h6 h7 h12 h11]
  exact zKD S g cs ns x id m w ho hS hg hbox hm h6 h7 h12 h11
def zHd (m : zB5) (ma : Option Addr) (mc : Nat) : Value := if m.2.2.2.1 = 6 then .iface 102 (.agg #[.int .i64 m.2.2.2.2.1]) else if m.2.2.2.1 = 7 then .iface 104 (.agg #[.int .i64 m.2.2.2.2.1]) else if m.2.2.2.1 = 12 then .iface 105 (.agg #[.int .i64 m.2.2.2.2.1]) else if m.2.2.2.1 = 11 then .iface 108 (.agg #[.int .i64 m.2.2.2.2.1, .int .i64 m.2.2.2.2.2.2, .slice ma m.2.2.2.2.2.1.length mc]) else .nilIface
theorem zKI (m : zB5) (ma : Option Addr) (mc : Nat) (w : World) : Calls Tryz.prog 36 #[.agg #[.int .i64 m.1, .int .i64 m.2.1, .int .i64 m.2.2.1, .int .i64 m.2.2.2.1, .int .i64 m.2.2.2.2.1, .slice ma m.2.2.2.2.2.1.length mc, .int .i64 m.2.2.2.2.2.2]] w fun e w' => e = .returned (zHd m ma mc) ∧ Below w.heap.size w w' := by
 unfold zHd
 by_cases h6 : m.2.2.2.1 = 6
 ·have z6 : (m.2.2.2.1 == 6) = true := by simp [h6]
  rw [if_pos h6]
  clear h6
  have B := zAf w (.cells #[.int .i64 m.1, .int .i64 m.2.1, .int .i64 m.2.2.1, .int .i64 m.2.2.2.1, .int .i64 m.2.2.2.2.1, .slice ma m.2.2.2.2.2.1.length mc, .int .i64 m.2.2.2.2.2.2] 46)
  have HB : Hid _ := B
  clear B
  go_enter Tryz.func36, Tryz.ntmps36
  go_wp2
  go_ret
  exact ⟨rfl, HB.out⟩
 ·have z6 : (m.2.2.2.1 == 6) = false := by simp [h6]
  by_cases h7 : m.2.2.2.1 = 7
  ·have z7 : (m.2.2.2.1 == 7) = true := by simp [h7]
   rw [if_neg h6, if_pos h7]
   clear h6 h7
   have B := zAf w (.cells #[.int .i64 m.1, .int .i64 m.2.1, .int .i64 m.2.2.1, .int .i64 m.2.2.2.1, .int .i64 m.2.2.2.2.1, .slice ma m.2.2.2.2.2.1.length mc, .int .i64 m.2.2.2.2.2.2] 46)
   have HB : Hid _ := B
   clear B
   go_enter Tryz.func36, Tryz.ntmps36
   go_wp2
   go_ret
   exact ⟨rfl, HB.out⟩
  ·have z7 : (m.2.2.2.1 == 7) = false := by simp [h7]
   by_cases h12 : m.2.2.2.1 = 12
   ·have z12 : (m.2.2.2.1 == 12) = true := by simp [h12]
    rw [if_neg h6, if_neg h7, if_pos h12]
    clear h6 h7 h12
    have B := zAf w (.cells #[.int .i64 m.1, .int .i64 m.2.1, .int .i64 m.2.2.1, .int .i64 m.2.2.2.1, .int .i64 m.2.2.2.2.1, .slice ma m.2.2.2.2.2.1.length mc, .int .i64 m.2.2.2.2.2.2] 46)
    have HB : Hid _ := B
    clear B
    go_enter Tryz.func36, Tryz.ntmps36
    go_wp2
    go_ret
    exact ⟨rfl, HB.out⟩
   ·have z12 : (m.2.2.2.1 == 12) = false := by simp [h12]
    by_cases h11 : m.2.2.2.1 = 11
    ·have z11 : (m.2.2.2.1 == 11) = true := by simp [h11]
     rw [if_neg h6, if_neg h7, if_neg h12, if_pos h11]
     clear h6 h7 h12 h11
     have B := zAf w (.cells #[.int .i64 m.1, .int .i64 m.2.1, .int .i64 m.2.2.1, .int .i64 m.2.2.2.1, .int .i64 m.2.2.2.2.1, .slice ma m.2.2.2.2.2.1.length mc, .int .i64 m.2.2.2.2.2.2] 46)
     have HB : Hid _ := B
     clear B
     go_enter Tryz.func36, Tryz.ntmps36
     go_wp2
     go_ret
     exact ⟨rfl, HB.out⟩
    ·have z11 : (m.2.2.2.1 == 11) = false := by simp [h11]
     rw [if_neg h6, if_neg h7, if_neg h12, if_neg h11]
     clear h6 h7 h12 h11
     have B := zAf w (.cells #[.int .i64 m.1, .int .i64 m.2.1, .int .i64 m.2.2.1, .int .i64 m.2.2.2.1, .int .i64 m.2.2.2.2.1, .slice ma m.2.2.2.2.2.1.length mc, .int .i64 m.2.2.2.2.2.2] 46)
     have HB : Hid _ := B
     clear B
     go_enter Tryz.func36, Tryz.ntmps36
     go_wp2
     go_ret
     exact ⟨rfl, HB.out⟩
end Go.Proofs.YtoihjejenjcokaaGreatDoor
