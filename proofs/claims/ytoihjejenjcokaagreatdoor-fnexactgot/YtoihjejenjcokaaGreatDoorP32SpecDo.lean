import Derived.Test.YtoihjejenjcokaaGreatDoorP00Box
import Derived.Test.YtoihjejenjcokaaGreatDoorP28CoreDid
import Derived.Test.YtoihjejenjcokaaGreatDoorP29CoreEvict
import Derived.Test.YtoihjejenjcokaaGreatDoorP31SpecWay
import Derived.Test.YtoihjejenjcokaaGreatDoorP18SpecCopy
import Derived.Test.YtoihjejenjcokaaGreatDoorP27Ops2
import Derived.Test.YtoihjejenjcokaaGreatDoorP23OkSmall
import Derived.BigRegion
import Derived.Deep.DeepCutAuto
namespace Go.Proofs.YtoihjejenjcokaaGreatDoor
open Go.ChangeShapes Go.WideShapes Go.ChangeAt Go.RowKit
set_option linter.unusedVariables false
theorem zMo {S : zAX} {w w' : World} (h : Chg S w.drew w') : Chg S w w' := ⟨h.os, h.tape, h.output, h.size, h.block⟩
theorem zGt {α : Type} {e : TypeId} {R : Rep α} {w : World} {S : zAX} {a : Option Addr} {n c : Nat} {xs : List α} (h : (slR e R).own w S [.slice a n c] xs) : xs.length = n := by
 obtain ⟨a', c', e', -⟩ := (slR e R).own_rd h
 simp only [List.cons.injEq, Value.slice.injEq, and_true] at e'
 exact e'.2.1.symm
theorem zLu {g d0 n : Nat} {T1 T2 : zAX} {u0 : Value} {b0 : Option Addr} {c : zAu} {l st : Int} {d2 : List Int} {ad : Option Addr} {yc : Nat} {fw : World} {C : Array Value} {fc : zAu × Bool} (hfc : fc = zB1 c (l, st, d2)) (hok : OkC isL zAJ c) (hb0 : C[0]? = some u0) (hb1 : C[1]? = some (.slice b0 c.2.length d0)) (G : fw.heap[g]? = some (.cells C 41 (0, 0))) (gT1 : ¬ T1 g) (gT2 : ¬ T2 g) (t12 : Dis T1 T2) (c1o : zBu.own fw T1 [u0] c.1) (c2o : zA5.own fw T2 [.slice b0 c.2.length d0] c.2) (i1 : zBk l) (i2 : zBk st) (hd : zA5.rd fw [.slice ad n yc] d2) (hn : d2.length = n) (hl : n ≤ 2) :
    Calls Tryz.prog 87 #[.pointer (some ⟨g, 0, none⟩), .agg #[.int .i64 l, .int .i64 st, .slice ad n yc]] fw.drew fun e w' => e = .returned (.bool fc.2) ∧ zBu.own w' (fun k => Old fw T1 k ∨ (fw.heap.size ≤ k ∧ k < w'.heap.size)) [u0] fc.1.1 ∧ zA5.own w' T2 [.slice b0 c.2.length d0] fc.1.2 ∧ Chg (fun k => Old fw T1 k ∨ T2 k) fw w' := by
 subst hfc
 subst hn
 obtain ⟨a', c', e', -, -, q⟩ := hd
 simp only [List.cons.injEq, Value.slice.injEq, and_true] at e'
 obtain ⟨rfl, -, -⟩ := e'
 refine (zN2 g d0 T1 T2 u0 b0 c l st d2 ad yc fw.drew hok C 41 hb0 hb1 (zBj G) gT1 gT2 t12 (zBu.own_keep c1o fun _ _ _ => rfl) (zA5.own_keep c2o fun _ _ _ => rfl) i1 i2 (zA7 q fun _ _ => rfl) (by omega)).mono ?_
 rintro e w' ⟨a, b, c, d⟩
 exact ⟨a, b, c, zMo d⟩
noncomputable def didB (x : zAE) (u : zAU) : Bool := (zB1 x.1 (zHh (zBv (toS x)) u)).2
noncomputable def didY (x : zAE) (u : zAU) : zAE := if didB x u then zJ3 x u else x
theorem zC9 {w : World} {S T0 S1 S4 S5 : zAX} {c : zAu} {p : List OpD} {a ph : Int} {u : zAU} {t : List Int} {v0 v1 v2 v5 v6 v7 v8 : Value} (i2 : zBk a) (i3 : zBk ph) (o0 : zAB.own w T0 [v0, v1] c) (o1 : zBX.own w S1 [v2] p) (o4 : zAS.own w S4 [v5, v6, v7] u) (o5 : zA5.own w S5 [v8] t)
    (s0 : Sub T0 S) (s1 : Sub S1 S) (s4 : Sub S4 S) (s5 : Sub S5 S) (d01 : Dis T0 S1) (d04 : Dis T0 S4) (d05 : Dis T0 S5) (d14 : Dis S1 S4) (d15 : Dis S1 S5) (d45 : Dis S4 S5) : zAn.own w S [v0, v1, v2, .int .i64 a, .int .i64 ph, v5, v6, v7, v8] (c, p, a, ph, u, t) :=
 zCo (x := (c, p, a, ph, u, t)) i2 i3 o0 o1 o4 o5 s0 s1 s4 s5 d01 d04 d05 d14 d15 d45
set_option maxHeartbeats 16000000 in
set_option maxRecDepth 20000 in
theorem l12Do_u (S : zAX) (g : Nat) (cs us : List Value) (x : zAE) (u : zAU) (w : World) (ho : zAn.own w S cs x) (hS : ∀ k, S k → k < w.heap.size) (hg : ¬ S g) (hbox : w.heap[g]? = some (.cells cs.toArray 41 (0, 0))) (hu : zAS.rd w us u) (hk : zAZ x = true) (h1 : x.2.2.1 < x.2.1.length) (hf : zBi isL u = true) (ha : zCl u.2.1 (zCV (zBv (toS x))) = 0) :
    Calls Tryz.prog 61 #[.pointer (some ⟨g, 0, none⟩), zAM us] w fun e w' => ∃ ds, e = .returned (.bool (didB x u)) ∧ zAn.own w' (fun k => S k ∨ (w.heap.size ≤ k ∧ k < w'.heap.size)) ds (didY x u) ∧ w'.heap[g]? = some (.cells ds.toArray 41 (0, 0)) ∧ Chg (fun k => S k ∨ k = g) w w' := by
 have hp := zB4 hk
 have hia := zJ1 hk
 have hok : OkC isL zAJ x.1 := hp.ok
 have hat0 : 0 ≤ x.2.2.1 := hp.at0
 have hlt := zF0 hk
 have hpl : x.2.1.length ≤ 30 := hp.len
 have hoo : zBN (zBv (toS x)) = true := hp.ops _ (zEa hp.at0 h1)
 have hos := zGX hat0 h1
 have hD : didY x u = if (zB1 x.1 (zHh (zBv (toS x)) u)).2 then ((zB1 x.1 (zHh (zBv (toS x)) u)).1, x.2.1, x.2.2.1 + 1, x.2.2.2.1, x.2.2.2.2.1, x.2.2.2.2.2 ++ [(zIH (zBv (toS x)) (u.2.2.getD ((zBv (toS x)).2.1 % 2).toNat 0)).2]) else x := rfl
 rw [hD, show didB x u = (zB1 x.1 (zHh (zBv (toS x)) u)).2 from rfl]
 unfold zHh
 clear hD
 have HKP : Hid (∀ v, (zB1 x.1 v).2 = false → (zB1 x.1 v).1 = x.1) := fun v e => zN3 hok v e
 obtain ⟨o, hoe⟩ : ∃ o, o = zBv (toS x) := ⟨_, rfl⟩
 rw [← hoe] at hoo ha hos ⊢
 clear hk hoe hp
 obtain ⟨fu1, fu2, fu3⟩ := zB0 hf
 obtain ⟨hq0, hq1⟩ := zFK hoo
 obtain ⟨j, hj⟩ : ∃ j : Nat, o.2.1 % 2 = (j : Int) := ⟨(o.2.1 % 2).toNat, by omega⟩
 have hul : u.2.2.length = 2 := zD4 fu3
 have hj2 : j < 2 := by omega
 rw [show (o.2.1 % 2).toNat = j by omega]
 obtain ⟨z, hz⟩ : ∃ z, z = u.2.2.getD j 0 := ⟨_, rfl⟩
 have hzo : okW z = true := by rw [hz]; exact zN8 fu3 _
 have hzr : 0 ≤ z ∧ z ≤ 9999 := by simpa [okW, zAQ] using hzo
 have hzz : u.2.2[j]? = some z := by rw [hz, List.getD_eq_getElem?_getD, List.getElem?_eq_getElem (by omega)]; rfl
 obtain ⟨th, hth⟩ : ∃ th, th = (zIH o z).1 := ⟨_, rfl⟩
 obtain ⟨td, htd⟩ : ∃ td, td = (zIH o z).2 := ⟨_, rfl⟩
 have htr := zI7 hoo hzr
 have hth64 : zBk th := by rw [hth]; constructor <;> omega
 have htd64 : zBk td := by rw [htd]; unfold zIH zCt; constructor <;> (simp only; split <;> omega)
 rw [← hz, ← hth, ← htd]
 have HLD : Hid (∀ W, Calls Tryz.prog 86 #[.agg #[.int .i64 o.1, .int .i64 o.2.1, .int .i64 o.2.2.1, .int .i64 o.2.2.2], .int .i64 z] W fun e w' => e = .returned (.tuple #[.int .i64 th, .int .i64 td]) ∧ Below W.heap.size W w') := fun W => by rw [hth, htd]; exact zMn o.1 o.2.1 o.2.2.1 o.2.2.2 z W (by have := zED hoo; simp [zAQ]; omega) (by have := zED hoo; simp [okW, zAQ]; omega) hzo
 have HWR : Hid (∀ W, Calls Tryz.prog 85 #[.agg #[.int .i64 o.1, .int .i64 o.2.1, .int .i64 o.2.2.1, .int .i64 o.2.2.2]] W fun e w' => e = .returned (.bool (zCV o)) ∧ Below W.heap.size W w') := fun W => zFX o W
 obtain ⟨ow, how⟩ : ∃ ow, ow = zCV o := ⟨_, rfl⟩
 rw [← how] at HWR ha ⊢
 have HAS : Hid (∀ W, Calls Tryz.prog 84 #[.int .i64 u.2.1, .bool ow] W fun e w' => e = .returned (.int .i64 0) ∧ Below W.heap.size W w') := fun W => by rw [← ha]; exact (zFN u.2.1 ow W).mono fun e w' ⟨q, r⟩ => ⟨q, zFj r⟩
 obtain ⟨d2, hd2⟩ : ∃ d2, d2 = u.2.2.set j th := ⟨_, rfl⟩
 rw [← hd2]
 have hdl : d2.length = 2 := by rw [hd2]; simpa using hul
 have HD2 : Hid (d2 = u.2.2.set j th) := hd2
 obtain ⟨s2, hs2⟩ : ∃ s2 : Int, s2 = (if ow then 3 else u.2.1) := ⟨_, rfl⟩
 rw [← hs2]
 have HS2 : Hid (s2 = (if ow then 3 else u.2.1)) := hs2
 obtain ⟨v0, v1, v2, v5, v6, v7, v8, S0, S1, S4, S5, rfl, i2, i3, o0, o1, o4, o5, sb0, sb1, sb4, sb5, d01, d04, d05, d14, d15, d45⟩ := zBd ho
 obtain ⟨u0, w0, T1, T2, e9, c1o, c2o, t1, t2, t12⟩ := zCe o0
 obtain ⟨a0, c0, b0, d0, e0, -⟩ := zAH (zAB.own_rd o0)
 simp only [List.cons.injEq, and_true] at e0 e9
 obtain ⟨rfl, rfl⟩ := e0
 obtain ⟨rfl, rfl⟩ := e9
 obtain ⟨a1, c1, e1, -, -, q1⟩ := zBX.own_rd o1
 simp only [List.cons.injEq, and_true] at e1
 obtain rfl := e1
 obtain ⟨a4, c4, e4, -⟩ := zAL (zAS.own_rd o4)
 simp only [List.cons.injEq, and_true] at e4
 obtain ⟨rfl, rfl, rfl⟩ := e4
 obtain ⟨a5, c5, e5, -⟩ := zA5.own_rd o5
 simp only [List.cons.injEq, and_true] at e5
 obtain rfl := e5
 obtain ⟨au, cu, rfl, iu1, iu2, -, -, qu⟩ := zAL hu
 have HUR : Hid (∀ W, Below w.heap.size w W → zAS.rd W [.int .i64 u.1, .int .i64 u.2.1, .slice au u.2.2.length cu] u) := fun W hb => zAN hu hb
 obtain ⟨c, p, at_, ph, h, t⟩ := x
 simp only at *
 obtain ⟨fc, hfc⟩ : ∃ fc, fc = zB1 c (u.1, s2, d2) := ⟨_, rfl⟩
 rw [← hfc]
 have HFC : Hid (fc = zB1 c (u.1, s2, d2)) := hfc
 obtain ⟨X2, hX2⟩ : ∃ X2 : zAE, X2 = (if fc.2 = true then (fc.1, p, at_ + 1, ph, h, t ++ [td]) else (c, p, at_, ph, h, t)) := ⟨_, rfl⟩
 rw [← hX2]
 have HX2 : Hid (fc.2 = false → (c, p, at_, ph, h, t) = X2) := fun e => by rw [hX2, e]; rfl
 have HX3 : Hid (fc.2 = true → (fc.1, p, at_ + 1, ph, h, t ++ [td]) = X2) := fun e => by rw [hX2, e]; rfl
 clear hfc hX2 hs2
 obtain ⟨n, rfl⟩ : ∃ n : Nat, at_ = n := ⟨at_.toNat, by omega⟩
 have hn : n < p.length := by omega
 have hn' : (n : Int) < (p.length : Int) := h1
 rw [show ((n : Int)).toNat = n by omega] at hos
 obtain ⟨ob, oo, rfl, -, -, -, -, -⟩ := zEt q1 hos
 have HOC : Hid (∀ W, Below w.heap.size w W → W.cell? ⟨ob, oo + n * 4, none⟩ = some (.int .i64 o.1) ∧ W.cell? ⟨ob, oo + n * 4 + 1, none⟩ = some (.int .i64 o.2.1) ∧ W.cell? ⟨ob, oo + n * 4 + 2, none⟩ = some (.int .i64 o.2.2.1) ∧ W.cell? ⟨ob, oo + n * 4 + 3, none⟩ = some (.int .i64 o.2.2.2) ∧ ob < W.heap.size) := fun W hb => by
  obtain ⟨b9, o9, e9, x0, x1, x2, x3, -⟩ := zEt (zAG q1 hb) hos
  simp only [Option.some.injEq, Addr.mk.injEq, and_true] at e9
  obtain ⟨rfl, rfl⟩ := e9
  exact ⟨x0, x1, x2, x3, zAi x0⟩
 have HOW : Hid _ := And.intro c1o (And.intro c2o (And.intro o1 (And.intro o4 (And.intro o5 (And.intro sb0 (And.intro sb1 (And.intro sb4 (And.intro sb5 (And.intro d01 (And.intro d04 (And.intro d05 (And.intro d14 (And.intro d15 (And.intro d45 (And.intro t1 (And.intro t2 (And.intro t12 (And.intro hS hg))))))))))))))))))
 have HOK : Hid (OkC isL zAJ c) := hok
 have HII : Hid _ := And.intro i2 (And.intro i3 (And.intro iu1 iu2))
 have HUL : Hid (u.2.2.length = 2) := hul
 have HDL : Hid (d2.length = 2) := hdl
 have HZZ : Hid (u.2.2[j]? = some z) := hzz
 have hjl : j < u.2.2.length := by omega
 have htm : Int.tmod o.2.1 2 = (j : Int) := (Int.tmod_eq_emod_of_nonneg hq0).trans hj
 have hwj : IntKind.i64.wrap (j : Int) = (j : Int) := by rw [IntKind.wrap_i64]; omega
 have hjl' : (j : Int) < (u.2.2.length : Int) := by omega
 have gl := (Array.getElem?_eq_some_iff.1 hbox).1
 have G : w.heap[g]? = some (.cells #[.slice a0 c.1.length c0, .slice b0 c.2.length d0, .slice (some ⟨ob, oo, none⟩) p.length c1, .int .i64 (n : Int), .int .i64 ph, .int .i64 h.1, .int .i64 h.2.1, .slice a4 h.2.2.length c4, .slice a5 t.length c5] 41 (0, 0)) := hbox
 clear hbox ho o0 o1 o4 o5 c1o c2o sb0 sb1 sb4 sb5 d01 d04 d05 d14 d15 d45 t1 t2 t12 hS hg hok hos q1 qu hu hul hdl hzz fu3 hd2 hz hth htd how ha hf hoo hzo htr hat0 h1
 rw [show zAM [.int .i64 u.1, .int .i64 u.2.1, .slice au u.2.2.length cu] = .agg #[.int .i64 u.1, .int .i64 u.2.1, .slice au u.2.2.length cu] from rfl]
 have B := Below.refl w.heap.size w
 go_enter Tryz.func61, Tryz.ntmps61
 go_upto_region 1 with fail
 generalize hu1w : w.alloc _ = u1w
 have V := boxH hu1w
 have bz := boxB hu1w
 have zV := boxL hu1w
 clear hu1w
 replace B := zAb B bz
 replace G := zAa bz G
 clear bz
 have zVa := Nat.le_of_eq zV
 have zVb := Nat.le_of_eq zV.symm
 clear zV
 obtain ⟨q0, q1, q2, q3, q4⟩ := HOC.out _ B
 obtain ⟨Gc0, Gc1, Gc2, Gc3, Gc4, Gc5, Gc6, Gc7, Gc8⟩ := zAc G
 have Glt := (Array.getElem?_eq_some_iff.1 G).1
 obtain ⟨Vc0, Vc1, Vc2⟩ := zAg V
 have Vlt := (Array.getElem?_eq_some_iff.1 V).1
 have HK : Hid _ := And.intro B (And.intro G (V))
 clear B G V
 go_region
 all_goals go_upto_region 2 with fail
 clear q0 q1 q2 q3 q4
 clear Gc0 Gc1 Gc2 Gc3 Gc4 Gc5 Gc6 Gc7 Gc8 Glt Vc0 Vc1 Vc2 Vlt
 obtain ⟨B, G, V⟩ := HK.out
 clear HK
 have O := zBj (zAy u1w (.cells #[.int .i64 o.1, .int .i64 o.2.1, .int .i64 o.2.2.1, .int .i64 o.2.2.2] 85))
 have bz : Below u1w.heap.size u1w (u1w.alloc (.cells #[.int .i64 o.1, .int .i64 o.2.1, .int .i64 o.2.2.1, .int .i64 o.2.2.2] 85)).drew := (zAf u1w (.cells #[.int .i64 o.1, .int .i64 o.2.1, .int .i64 o.2.2.1, .int .i64 o.2.2.2] 85)).drew
 have zO : u1w.heap.size + 1 ≤ (u1w.alloc (.cells #[.int .i64 o.1, .int .i64 o.2.1, .int .i64 o.2.2.1, .int .i64 o.2.2.2] 85)).drew.heap.size := Nat.le_of_eq (zAp u1w (.cells #[.int .i64 o.1, .int .i64 o.2.1, .int .i64 o.2.2.1, .int .i64 o.2.2.2] 85)).symm
 replace B := zAb B bz
 replace G := zAa bz G
 replace V := zAa bz V
 clear bz
 generalize (u1w.alloc (.cells #[.int .i64 o.1, .int .i64 o.2.1, .int .i64 o.2.2.1, .int .i64 o.2.2.2] 85)).drew = u2w at B G V O zO ⊢
 obtain ⟨Gc0, Gc1, Gc2, Gc3, Gc4, Gc5, Gc6, Gc7, Gc8⟩ := zAc G
 have Glt := (Array.getElem?_eq_some_iff.1 G).1
 obtain ⟨Vc0, Vc1, Vc2⟩ := zAg V
 have Vlt := (Array.getElem?_eq_some_iff.1 V).1
 obtain ⟨Oc0, Oc1, Oc2, Oc3⟩ := zB3 O
 have Olt := (Array.getElem?_eq_some_iff.1 O).1
 go_upto_region 2 with fail
 clear Gc0 Gc1 Gc2 Gc3 Gc4 Gc5 Gc6 Gc7 Gc8 Glt Vc0 Vc1 Vc2 Vlt Oc0 Oc1 Oc2 Oc3 Olt
 obtain ⟨Vc0, Vc1, Vc2⟩ := zAg V
 have Vk0 : ∀ n' : Cls (fun wx => Below u2w.heap.size u2w wx), n'.w.cell? ⟨w.heap.size, 0, none⟩ = some (.int .i64 u.1) := fun n' => zAd n'.h Vc0 (zAi Vc0)
 have Vk1 : ∀ n' : Cls (fun wx => Below u2w.heap.size u2w wx), n'.w.cell? ⟨w.heap.size, 1, none⟩ = some (.int .i64 u.2.1) := fun n' => zAd n'.h Vc1 (zAi Vc1)
 have Vk2 : ∀ n' : Cls (fun wx => Below u2w.heap.size u2w wx), n'.w.cell? ⟨w.heap.size, 2, none⟩ = some (.slice au u.2.2.length cu) := fun n' => zAd n'.h Vc2 (zAi Vc2)
 clear Vc0 Vc1 Vc2
 obtain ⟨Oc0, Oc1, Oc2, Oc3⟩ := zB3 O
 have Ok0 : ∀ n' : Cls (fun wx => Below u2w.heap.size u2w wx), n'.w.cell? ⟨u1w.heap.size, 0, none⟩ = some (.int .i64 o.1) := fun n' => zAd n'.h Oc0 (zAi Oc0)
 have Ok1 : ∀ n' : Cls (fun wx => Below u2w.heap.size u2w wx), n'.w.cell? ⟨u1w.heap.size, 1, none⟩ = some (.int .i64 o.2.1) := fun n' => zAd n'.h Oc1 (zAi Oc1)
 have Ok2 : ∀ n' : Cls (fun wx => Below u2w.heap.size u2w wx), n'.w.cell? ⟨u1w.heap.size, 2, none⟩ = some (.int .i64 o.2.2.1) := fun n' => zAd n'.h Oc2 (zAi Oc2)
 have Ok3 : ∀ n' : Cls (fun wx => Below u2w.heap.size u2w wx), n'.w.cell? ⟨u1w.heap.size, 3, none⟩ = some (.int .i64 o.2.2.2) := fun n' => zAd n'.h Oc3 (zAi Oc3)
 clear Oc0 Oc1 Oc2 Oc3
 have HFX : Hid _ := And.intro B (And.intro G (And.intro V (O)))
 clear B G V O
 refine zA8 (fun wx => Below u2w.heap.size u2w wx) (by kernel_rfl) (by kernel_rfl) ((Below.refl _ u2w).drew) ?_
 intro hne
 repeat (quiet_step (first | (go_at_call 85; exact zAz (HWR.out _) (fun w' hc bb => zAb hc bb)) | (go_at_call 84; exact zAz (HAS.out _) (fun w' hc bb => zAb hc bb))))
 refine wpQuiet_nil ?_
 intro u3w bq
 clear Vk0 Vk1 Vk2 Ok0 Ok1 Ok2 Ok3 hne
 obtain ⟨B, G, V, O⟩ := HFX.out
 clear HFX
 have tu3w : u2w.heap.size ≤ u3w.heap.size := bq.size
 replace B := zAb B bq
 replace G := zAa bq G
 replace V := zAa bq V
 replace O := zAa bq O
 clear bq
 obtain ⟨Gc0, Gc1, Gc2, Gc3, Gc4, Gc5, Gc6, Gc7, Gc8⟩ := zAc G
 have Glt := (Array.getElem?_eq_some_iff.1 G).1
 obtain ⟨Vc0, Vc1, Vc2⟩ := zAg V
 have Vlt := (Array.getElem?_eq_some_iff.1 V).1
 obtain ⟨Oc0, Oc1, Oc2, Oc3⟩ := zB3 O
 have Olt := (Array.getElem?_eq_some_iff.1 O).1
 go_wp2_with fail
 clear Gc0 Gc1 Gc2 Gc3 Gc4 Gc5 Gc6 Gc7 Gc8 Glt Vc0 Vc1 Vc2 Vlt Oc0 Oc1 Oc2 Oc3 Olt
 refine (zGV [.int .i64 u.1, .int .i64 u.2.1, .slice au u.2.2.length cu] u _ (HUR.out _ B) (by have := HUL.out; omega)).mono ?_
 rintro e u4w ⟨ds, rfl, mm⟩
 obtain ⟨ya, yc, rfl, -, -, -, -, -⟩ := zAL (zAS.own_rd mm.1)
 rw [show zAM [.int .i64 u.1, .int .i64 u.2.1, .slice ya u.2.2.length yc] = .agg #[.int .i64 u.1, .int .i64 u.2.1, .slice ya u.2.2.length yc] from rfl]
 have Y := zAR (R := zAS) mm
 have mb := mm.2
 have tu4w : u3w.heap.size ≤ u4w.heap.size := mb.size
 replace B := zAb B mb
 replace G := zAa mb G
 replace V := zAa mb V
 replace O := zAa mb O
 clear mb mm
 obtain ⟨Gc0, Gc1, Gc2, Gc3, Gc4, Gc5, Gc6, Gc7, Gc8⟩ := zAc G
 have Glt := (Array.getElem?_eq_some_iff.1 G).1
 obtain ⟨Vc0, Vc1, Vc2⟩ := zAg V
 have Vlt := (Array.getElem?_eq_some_iff.1 V).1
 obtain ⟨Vf0, Vf1, Vf2⟩ := zLt V
 obtain ⟨Oc0, Oc1, Oc2, Oc3⟩ := zB3 O
 have Olt := (Array.getElem?_eq_some_iff.1 O).1
 go_upto_region 5 with fail
 clear Gc0 Gc1 Gc2 Gc3 Gc4 Gc5 Gc6 Gc7 Gc8 Glt Vc0 Vc1 Vc2 Vlt Vf0 Vf1 Vf2 Oc0 Oc1 Oc2 Oc3 Olt
 rw [show (((u4w.setCell ⟨w.heap.size, 0, none⟩ (.int .i64 u.1)).setCell ⟨w.heap.size, 1, none⟩ (.int .i64 u.2.1)).setCell ⟨w.heap.size, 2, none⟩ (.slice ya u.2.2.length yc)) = (zAo u4w (w.heap.size) 0 [.int .i64 u.1, .int .i64 u.2.1, .slice ya u.2.2.length yc]) from rfl]
 replace G := zAk (g := w.heap.size) (o := 0) (vs := [.int .i64 u.1, .int .i64 u.2.1, .slice ya u.2.2.length yc]) G (by omega)
 replace O := zAk (g := w.heap.size) (o := 0) (vs := [.int .i64 u.1, .int .i64 u.2.1, .slice ya u.2.2.length yc]) O (by omega)
 replace Y := zAw (g := w.heap.size) (o := 0) (vs := [.int .i64 u.1, .int .i64 u.2.1, .slice ya u.2.2.length yc]) Y (by omega)
 replace B := zAv (g := w.heap.size) (o := 0) (vs := [.int .i64 u.1, .int .i64 u.2.1, .slice ya u.2.2.length yc]) B (by omega)
 replace V : (zAo u4w (w.heap.size) 0 [.int .i64 u.1, .int .i64 u.2.1, .slice ya u.2.2.length yc]).heap[w.heap.size]? = some (.cells #[.int .i64 u.1, .int .i64 u.2.1, .slice ya u.2.2.length yc] 39 (0, 0)) := zAC _ _ V
 have tu5w := Nat.le_of_eq (zAj (g := w.heap.size) [.int .i64 u.1, .int .i64 u.2.1, .slice ya u.2.2.length yc] 0 u4w)
 have qu5w := Nat.le_of_eq (zAj (g := w.heap.size) [.int .i64 u.1, .int .i64 u.2.1, .slice ya u.2.2.length yc] 0 u4w).symm
 generalize (zAo u4w (w.heap.size) 0 [.int .i64 u.1, .int .i64 u.2.1, .slice ya u.2.2.length yc]) = u5w at B G V O Y tu5w qu5w ⊢
 obtain ⟨gy, cy, ey, hgy, hgl, hcy, num⟩ := zIw (zIn Y.1) HZZ.out
 simp only [Value.slice.injEq, true_and] at ey
 obtain ⟨rfl, rfl⟩ := ey
 have hgy1 := hgy.1
 have hgy2 := hgy.2
 have NUM : Hid _ := num
 have hysz := Y.2
 clear num hgy Y
 obtain ⟨Gc0, Gc1, Gc2, Gc3, Gc4, Gc5, Gc6, Gc7, Gc8⟩ := zAc G
 have Glt := (Array.getElem?_eq_some_iff.1 G).1
 obtain ⟨Vc0, Vc1, Vc2⟩ := zAg V
 have Vlt := (Array.getElem?_eq_some_iff.1 V).1
 obtain ⟨Oc0, Oc1, Oc2, Oc3⟩ := zB3 O
 have Olt := (Array.getElem?_eq_some_iff.1 O).1
 go_upto_region 5 with fail
 clear Gc0 Gc1 Gc2 Gc3 Gc4 Gc5 Gc6 Gc7 Gc8 Glt Vc0 Vc1 Vc2 Vlt Oc0 Oc1 Oc2 Oc3 Olt
 obtain ⟨Vc0, Vc1, Vc2⟩ := zAg V
 have Vk0 : ∀ n' : Cls (fun wx => Below u5w.heap.size u5w wx), n'.w.cell? ⟨w.heap.size, 0, none⟩ = some (.int .i64 u.1) := fun n' => zAd n'.h Vc0 (zAi Vc0)
 have Vk1 : ∀ n' : Cls (fun wx => Below u5w.heap.size u5w wx), n'.w.cell? ⟨w.heap.size, 1, none⟩ = some (.int .i64 u.2.1) := fun n' => zAd n'.h Vc1 (zAi Vc1)
 have Vk2 : ∀ n' : Cls (fun wx => Below u5w.heap.size u5w wx), n'.w.cell? ⟨w.heap.size, 2, none⟩ = some (.slice (some ⟨gy, 0, none⟩) u.2.2.length yc) := fun n' => zAd n'.h Vc2 (zAi Vc2)
 clear Vc0 Vc1 Vc2
 obtain ⟨Oc0, Oc1, Oc2, Oc3⟩ := zB3 O
 have Ok0 : ∀ n' : Cls (fun wx => Below u5w.heap.size u5w wx), n'.w.cell? ⟨u1w.heap.size, 0, none⟩ = some (.int .i64 o.1) := fun n' => zAd n'.h Oc0 (zAi Oc0)
 have Ok1 : ∀ n' : Cls (fun wx => Below u5w.heap.size u5w wx), n'.w.cell? ⟨u1w.heap.size, 1, none⟩ = some (.int .i64 o.2.1) := fun n' => zAd n'.h Oc1 (zAi Oc1)
 have Ok2 : ∀ n' : Cls (fun wx => Below u5w.heap.size u5w wx), n'.w.cell? ⟨u1w.heap.size, 2, none⟩ = some (.int .i64 o.2.2.1) := fun n' => zAd n'.h Oc2 (zAi Oc2)
 have Ok3 : ∀ n' : Cls (fun wx => Below u5w.heap.size u5w wx), n'.w.cell? ⟨u1w.heap.size, 3, none⟩ = some (.int .i64 o.2.2.2) := fun n' => zAd n'.h Oc3 (zAi Oc3)
 clear Oc0 Oc1 Oc2 Oc3
 have hck : ∀ n' : Cls (fun wx => Below u5w.heap.size u5w wx), n'.w.cell? ⟨gy, j, none⟩ = some (.int .i64 z) := fun n' => zAd n'.h hcy (zAi hcy)
 have HFX : Hid _ := And.intro B (And.intro G (And.intro V (O)))
 clear B G V O
 refine zA8 (fun wx => Below u5w.heap.size u5w wx) (by kernel_rfl) (by kernel_rfl) ((Below.refl _ u5w).drew) ?_
 intro hne
 repeat (quiet_step (first | (go_at_call 86; exact zAz (HLD.out _) (fun w' hc bb => zAb hc bb))))
 refine wpQuiet_nil ?_
 intro u6w bq
 clear Vk0 Vk1 Vk2 Ok0 Ok1 Ok2 Ok3 hck hne
 obtain ⟨B, G, V, O⟩ := HFX.out
 clear HFX
 have tu6w : u5w.heap.size ≤ u6w.heap.size := bq.size
 have bK := bq
 replace B := zAb B bq
 replace G := zAa bq G
 replace V := zAa bq V
 replace O := zAa bq O
 clear bq
 obtain ⟨n1, n2, n3, n4⟩ := NUM.out u6w th bK hth64
 rw [← HD2.out] at n3
 have HN3 : Hid _ := n3
 clear n3 n4 NUM bK hcy
 obtain ⟨Gc0, Gc1, Gc2, Gc3, Gc4, Gc5, Gc6, Gc7, Gc8⟩ := zAc G
 have Glt := (Array.getElem?_eq_some_iff.1 G).1
 obtain ⟨Vc0, Vc1, Vc2⟩ := zAg V
 have Vlt := (Array.getElem?_eq_some_iff.1 V).1
 obtain ⟨Oc0, Oc1, Oc2, Oc3⟩ := zB3 O
 have Olt := (Array.getElem?_eq_some_iff.1 O).1
 have HK : Hid _ := And.intro B (And.intro G (And.intro V (O)))
 clear B G V O
 go_upto_region 7 with fail
 clear n1 n2
 clear Gc0 Gc1 Gc2 Gc3 Gc4 Gc5 Gc6 Gc7 Gc8 Glt Vc0 Vc1 Vc2 Vlt Oc0 Oc1 Oc2 Oc3 Olt
 obtain ⟨B, G, V, O⟩ := HK.out
 clear HK
 have D := HN3.out
 clear HN3
 have sza : u6w.heap.size ≤ (u6w.setCell ⟨gy, j, none⟩ (.int .i64 th)).heap.size := by simp
 have szb : (u6w.setCell ⟨gy, j, none⟩ (.int .i64 th)).heap.size ≤ u6w.heap.size := by simp
 replace G := zAP (g := gy) (o := j) (v := .int .i64 th) G (by omega)
 replace V := zAP (g := gy) (o := j) (v := .int .i64 th) V (by omega)
 replace O := zAP (g := gy) (o := j) (v := .int .i64 th) O (by omega)
 replace B := zAq (g := gy) (o := j) (v := .int .i64 th) B (by omega)
 generalize (u6w.setCell ⟨gy, j, none⟩ (.int .i64 th)) = u7w at B G V O D sza szb ⊢
 replace D : zCp zA5 (u3w.heap.size) (u4w.heap.size) u7w [.slice (some ⟨gy, 0, none⟩) u.2.2.length yc] d2 := And.intro D (by omega)
 obtain ⟨Gc0, Gc1, Gc2, Gc3, Gc4, Gc5, Gc6, Gc7, Gc8⟩ := zAc G
 have Glt := (Array.getElem?_eq_some_iff.1 G).1
 obtain ⟨Vc0, Vc1, Vc2⟩ := zAg V
 have Vlt := (Array.getElem?_eq_some_iff.1 V).1
 obtain ⟨Oc0, Oc1, Oc2, Oc3⟩ := zB3 O
 have Olt := (Array.getElem?_eq_some_iff.1 O).1
 go_wp2_with fail
 clear Gc0 Gc1 Gc2 Gc3 Gc4 Gc5 Gc6 Gc7 Gc8 Glt Vc0 Vc1 Vc2 Vlt Oc0 Oc1 Oc2 Oc3 Olt
 refine (HWR.out _).mono ?_
 rintro e u8w ⟨rfl, bq⟩
 have tu8w : u7w.heap.size ≤ u8w.heap.size := bq.size
 replace B := zAb B bq
 replace G := zAa bq G
 replace V := zAa bq V
 replace O := zAa bq O
 replace D := zA6 D bq
 clear bq
 cases ow
 ·obtain rfl : s2 = u.2.1 := by have := HS2.out; simpa using this
  obtain ⟨Gc0, Gc1, Gc2, Gc3, Gc4, Gc5, Gc6, Gc7, Gc8⟩ := zAc G
  have Glt := (Array.getElem?_eq_some_iff.1 G).1
  obtain ⟨Vc0, Vc1, Vc2⟩ := zAg V
  have Vlt := (Array.getElem?_eq_some_iff.1 V).1
  obtain ⟨Oc0, Oc1, Oc2, Oc3⟩ := zB3 O
  have Olt := (Array.getElem?_eq_some_iff.1 O).1
  go_upto_region 9 with fail
  clear Gc0 Gc1 Gc2 Gc3 Gc4 Gc5 Gc6 Gc7 Gc8 Glt Vc0 Vc1 Vc2 Vlt Oc0 Oc1 Oc2 Oc3 Olt
  obtain ⟨c1o, c2o, o1, o4, o5, sb0, sb1, sb4, sb5, d01, d04, d05, d14, d15, d45, t1, t2, t12, hS, hg⟩ := HOW.out
  replace c1o := zBu.own_keep c1o (zAh B)
  replace c2o := zA5.own_keep c2o (zAh B)
  replace o1 := zBX.own_keep o1 (zAh B)
  replace o4 := zAS.own_keep o4 (zAh B)
  replace o5 := zA5.own_keep o5 (zAh B)
  obtain ⟨i2, i3, iu1, iu2⟩ := HII.out
  have gT1 : ¬ T1 g := fun q => hg (sb0 _ (t1 _ q))
  have gT2 : ¬ T2 g := fun q => hg (sb0 _ (t2 _ q))
  have HFL : Hid (Calls Tryz.prog 87 #[.pointer (some ⟨g, 0, none⟩), .agg #[.int .i64 u.1, .int .i64 u.2.1, .slice (some ⟨gy, 0, none⟩) u.2.2.length yc]] u8w.drew fun e w' => e = .returned (.bool fc.2) ∧ zBu.own w' (fun k => Old u8w T1 k ∨ (u8w.heap.size ≤ k ∧ k < w'.heap.size)) [.slice a0 c.1.length c0] fc.1.1 ∧ zA5.own w' T2 [.slice b0 c.2.length d0] fc.1.2 ∧ Chg (fun k => Old u8w T1 k ∨ T2 k) u8w w') := by
   exact zLu (C := #[.slice a0 c.1.length c0, .slice b0 c.2.length d0, .slice (some ⟨ob, oo, none⟩) p.length c1, .int .i64 (n : Int), .int .i64 ph, .int .i64 h.1, .int .i64 h.2.1, .slice a4 h.2.2.length c4, .slice a5 t.length c5]) HFC.out HOK.out rfl rfl G gT1 gT2 t12 c1o c2o iu1 iu2 (zA5.own_rd D.1) (HDL.out.trans HUL.out.symm) (by have := HUL.out; omega)
  have HC9 : Hid _ := And.intro o1 (And.intro o4 (And.intro o5 (And.intro sb0 (And.intro sb1 (And.intro sb4 (And.intro sb5 (And.intro d01 (And.intro d04 (And.intro d05 (And.intro d14 (And.intro d15 (And.intro d45 (And.intro t1 (And.intro t2 (And.intro t12 (And.intro hS (And.intro hg (And.intro i2 (And.intro i3 (And.intro gT1 gT2))))))))))))))))))))
  clear c1o c2o o1 o4 o5 sb0 sb1 sb4 sb5 d01 d04 d05 d14 d15 d45 t1 t2 t12 hS hg i2 i3 iu1 iu2 gT1 gT2 HOW HII
  go_cut [53] (fun q wx => q = .bool (!fc.2) ∧ zBu.own wx (fun k => Old u8w T1 k ∨ (u8w.heap.size ≤ k ∧ k < wx.heap.size)) [.slice a0 c.1.length c0] fc.1.1 ∧ zA5.own wx T2 [.slice b0 c.2.length d0] fc.1.2 ∧ Chg (fun k => Old u8w T1 k ∨ T2 k) u8w wx)
  case first =>
   obtain ⟨Gc0, Gc1, Gc2, Gc3, Gc4, Gc5, Gc6, Gc7, Gc8⟩ := zAc G
   have Glt := (Array.getElem?_eq_some_iff.1 G).1
   obtain ⟨Vc0, Vc1, Vc2⟩ := zAg V
   have Vlt := (Array.getElem?_eq_some_iff.1 V).1
   obtain ⟨Oc0, Oc1, Oc2, Oc3⟩ := zB3 O
   have Olt := (Array.getElem?_eq_some_iff.1 O).1
   have HK : Hid _ := And.intro B (And.intro G (And.intro V (And.intro O (D))))
   clear B G V O D
   go_region_with (go_at_call 87; refine HFL.out.mono ?_; rintro e wf ⟨rfl, f1, f2, f3⟩)
   all_goals go_wp2_with fail
   all_goals go_meet
   all_goals exact ⟨rfl, f1, f2, f3⟩
  case rest =>
   obtain ⟨rfl, f1, f2, f3⟩ := hcut
   clear HFL
   generalize wc = wf at f1 f2 f3 ⊢
   obtain ⟨o1, o4, o5, sb0, sb1, sb4, sb5, d01, d04, d05, d14, d15, d45, t1, t2, t12, hS, hg, i2, i3, gT1, gT2⟩ := HC9.out
   have bsz := B.size
   have fsz := f3.size
   have nT : ∀ k, S0 k ∨ S1 k ∨ S4 k ∨ S5 k ∨ k = g → k < w.heap.size := fun k q => by rcases q with q | q | q | q | q; exact hS _ (sb0 _ q); exact hS _ (sb1 _ q); exact hS _ (sb4 _ q); exact hS _ (sb5 _ q); omega
   have G2 := (f3.block g (by omega) (fun q => by rcases q with q | q; exact gT1 q.1; exact gT2 q)).trans G
   have q1 := zAO o1 f3 (fun k a b => d01 k (by rcases b with b | b; exact t1 _ b.1; exact t2 _ b) a)
   have q4 := zAO o4 f3 (fun k a b => d04 k (by rcases b with b | b; exact t1 _ b.1; exact t2 _ b) a)
   have q5 := zAO o5 f3 (fun k a b => d05 k (by rcases b with b | b; exact t1 _ b.1; exact t2 _ b) a)
   have OC := zCd (c := fc.1) (S := fun k => S0 k ∨ (u8w.heap.size ≤ k ∧ k < wf.heap.size)) f1 f2 (fun k q => by rcases q with q | q; exact .inl (t1 _ q.1); exact .inr q) (fun k q => .inl (t2 _ q)) (fun k a b => by rcases a with a | a; exact t12 k a.1 b; (have := hS _ (sb0 _ (t2 _ b)); omega))
   have CH : Chg (fun k => S k ∨ k = g) w wf := (zA9 B).trans (f3.mono fun k q => .inl (by rcases q with q | q; exact sb0 _ (t1 _ q.1); exact sb0 _ (t2 _ q)))
   have clk : fc.1.1.length = c.1.length ∧ fc.1.2.length = c.2.length := by have a1 := zGt f1; have a2 := zGt f2; exact ⟨a1, a2⟩
   cases hfb : fc.2
   ·have hcc : fc.1 = c := by have := HKP.out _ (HFC.out ▸ hfb); rw [← HFC.out] at this; exact this
    have FO : zAn.own wf (fun k => S k ∨ (w.heap.size ≤ k ∧ k < wf.heap.size)) [.slice a0 c.1.length c0, .slice b0 c.2.length d0, .slice (some ⟨ob, oo, none⟩) p.length c1, .int .i64 (n : Int), .int .i64 ph, .int .i64 h.1, .int .i64 h.2.1, .slice a4 h.2.2.length c4, .slice a5 t.length c5] (c, p, (n : Int), ph, h, t) := by
     rw [hcc] at OC
     exact zC9 i2 i3 OC q1 q4 q5 (fun k q => by rcases q with q | q; exact .inl (sb0 _ q); exact .inr ⟨by omega, q.2⟩) (fun k q => .inl (sb1 _ q)) (fun k q => .inl (sb4 _ q)) (fun k q => .inl (sb5 _ q)) (fun k a b => by rcases a with a | a; exact d01 k a b; (have := hS _ (sb1 _ b); omega)) (fun k a b => by rcases a with a | a; exact d04 k a b; (have := hS _ (sb4 _ b); omega)) (fun k a b => by rcases a with a | a; exact d05 k a b; (have := hS _ (sb5 _ b); omega)) d14 d15 d45
    have HZ : Hid _ := And.intro FO (And.intro G2 CH)
    clear FO G2 CH OC q1 q4 q5 f1 f2 f3 o1 o4 o5 B G V O D clk HC9 nT
    go_wp2
    go_ret
    exact ⟨[.slice a0 c.1.length c0, .slice b0 c.2.length d0, .slice (some ⟨ob, oo, none⟩) p.length c1, .int .i64 (n : Int), .int .i64 ph, .int .i64 h.1, .int .i64 h.2.1, .slice a4 h.2.2.length c4, .slice a5 t.length c5], zA2 hfb.symm, HX2.out hfb ▸ HZ.out.1, HZ.out.2.1, HZ.out.2.2⟩
   ·skip
    have HPR : Hid _ := And.intro sb0 (And.intro sb1 (And.intro sb4 (And.intro sb5 (And.intro d01 (And.intro d04 (And.intro d05 (And.intro d14 (And.intro d15 (And.intro d45 (And.intro hS (And.intro hg (And.intro i2 i3))))))))))))
    have q5k := q5
    clear f1 f2 f3 o1 o4 o5 q5 B G V O D clk HC9 nT t1 t2 t12 gT1 gT2
    obtain ⟨y0, y1, y2, y3, y4, y5, y6, y7, y8⟩ := zAc G2
    obtain ⟨f0_, f1_, f2_, f3_, f4_, f5_, f6_, f7_, f8_⟩ := zAr G2
    have ylt := (Array.getElem?_eq_some_iff.1 G2).1
    have HZ : Hid _ := And.intro G2 (And.intro OC (And.intro q1 (And.intro q4 CH)))
    clear G2 OC q1 q4 CH sb0 sb1 sb4 sb5 d01 d04 d05 d14 d15 d45 hS hg i2 i3
    go_wp2_with (at_builtin; refine zEY (w := wf) rfl _ _ rfl S5 (.slice a5 t.length c5) t td htd64 rfl wf.heap.size 1 rfl rfl q5k (by omega) ?_)
    intro gt ct wt NT NC
    clear y0 y1 y2 y3 y4 y5 y6 y7 y8 f0_ f1_ f2_ f3_ f4_ f5_ f6_ f7_ f8_ ylt q5k
    obtain ⟨G2, OC, q1, q4, CH⟩ := HZ.out
    clear HZ
    obtain ⟨sb0, sb1, sb4, sb5, d01, d04, d05, d14, d15, d45, hS, hg, i2, i3⟩ := HPR.out
    have tsz := NC.size
    replace G2 := (NC.block g (by omega) (fun q => hg (sb5 _ q.1))).trans G2
    replace OC := zAO OC NC (fun k a b => by rcases a with a | a; exact d05 k a b.1; (have := hS _ (sb5 _ b.1); omega))
    replace q1 := zAO q1 NC (fun k a b => d15 k a b.1)
    replace q4 := zAO q4 NC (fun k a b => d45 k a b.1)
    replace CH := CH.trans (NC.mono fun k q => .inl (sb5 _ q.1))
    obtain ⟨y0, y1, y2, y3, y4, y5, y6, y7, y8⟩ := zAc G2
    obtain ⟨f0_, f1_, f2_, f3_, f4_, f5_, f6_, f7_, f8_⟩ := zAr G2
    have ylt := (Array.getElem?_eq_some_iff.1 G2).1
    have HZ : Hid _ := And.intro G2 (And.intro OC (And.intro q1 (And.intro q4 (And.intro CH (NT)))))
    clear G2 OC q1 q4 CH NT
    go_upto_region 12 with fail
    clear y0 y1 y2 y3 y4 y5 y6 y7 y8 f0_ f1_ f2_ f3_ f4_ f5_ f6_ f7_ f8_ ylt
    obtain ⟨G2, OC, q1, q4, CH, NT⟩ := HZ.out
    clear HZ
    rw [show wt.setCell ⟨g, 8, none⟩ (.slice (some ⟨gt, 0, none⟩) (t.length + 1) ct) = (zAo wt g 8 [.slice (some ⟨gt, 0, none⟩) (t.length + 1) ct]) from rfl]
    replace G2 : (zAo wt g 8 [.slice (some ⟨gt, 0, none⟩) (t.length + 1) ct]).heap[g]? = some (.cells #[.slice a0 c.1.length c0, .slice b0 c.2.length d0, .slice (some ⟨ob, oo, none⟩) p.length c1, .int .i64 (n : Int), .int .i64 ph, .int .i64 h.1, .int .i64 h.2.1, .slice a4 h.2.2.length c4, .slice (some ⟨gt, 0, none⟩) (t.length + 1) ct] 41 (0, 0)) := zAC _ _ G2
    replace OC := zAs (g := g) (o := 8) (vs := [.slice (some ⟨gt, 0, none⟩) (t.length + 1) ct]) OC (fun q => by rcases q with q | q; exact hg (sb0 _ q); omega)
    replace q1 := zAs (g := g) (o := 8) (vs := [.slice (some ⟨gt, 0, none⟩) (t.length + 1) ct]) q1 (fun q => hg (sb1 _ q))
    replace q4 := zAs (g := g) (o := 8) (vs := [.slice (some ⟨gt, 0, none⟩) (t.length + 1) ct]) q4 (fun q => hg (sb4 _ q))
    replace NT := zAs (g := g) (o := 8) (vs := [.slice (some ⟨gt, 0, none⟩) (t.length + 1) ct]) NT (fun q => by rcases q with q | q; exact hg (sb5 _ q.1); omega)
    replace CH := CH.trans ((zBU [.slice (some ⟨gt, 0, none⟩) (t.length + 1) ct] 8 wt (g := g)).mono fun k q => .inr q)
    have zwua := Nat.le_of_eq (zAj (g := g) [.slice (some ⟨gt, 0, none⟩) (t.length + 1) ct] 8 wt)
    have zwub := Nat.le_of_eq (zAj (g := g) [.slice (some ⟨gt, 0, none⟩) (t.length + 1) ct] 8 wt).symm
    generalize (zAo wt g 8 [.slice (some ⟨gt, 0, none⟩) (t.length + 1) ct]) = wu at G2 OC q1 q4 CH NT zwua zwub ⊢
    obtain ⟨y0, y1, y2, y3, y4, y5, y6, y7, y8⟩ := zAc G2
    obtain ⟨f0_, f1_, f2_, f3_, f4_, f5_, f6_, f7_, f8_⟩ := zAr G2
    have ylt := (Array.getElem?_eq_some_iff.1 G2).1
    have HZ : Hid _ := And.intro G2 (And.intro OC (And.intro q1 (And.intro q4 (And.intro CH (NT)))))
    clear G2 OC q1 q4 CH NT
    go_upto_region 13 with fail
    clear y0 y1 y2 y3 y4 y5 y6 y7 y8 f0_ f1_ f2_ f3_ f4_ f5_ f6_ f7_ f8_ ylt
    obtain ⟨G2, OC, q1, q4, CH, NT⟩ := HZ.out
    clear HZ
    rw [show wu.setCell ⟨g, 3, none⟩ (.int .i64 ((n : Int) + 1)) = (zAo wu g 3 [.int .i64 ((n : Int) + 1)]) from rfl]
    replace G2 : (zAo wu g 3 [.int .i64 ((n : Int) + 1)]).heap[g]? = some (.cells #[.slice a0 c.1.length c0, .slice b0 c.2.length d0, .slice (some ⟨ob, oo, none⟩) p.length c1, .int .i64 ((n : Int) + 1), .int .i64 ph, .int .i64 h.1, .int .i64 h.2.1, .slice a4 h.2.2.length c4, .slice (some ⟨gt, 0, none⟩) (t.length + 1) ct] 41 (0, 0)) := zAC _ _ G2
    replace OC := zAs (g := g) (o := 3) (vs := [.int .i64 ((n : Int) + 1)]) OC (fun q => by rcases q with q | q; exact hg (sb0 _ q); omega)
    replace q1 := zAs (g := g) (o := 3) (vs := [.int .i64 ((n : Int) + 1)]) q1 (fun q => hg (sb1 _ q))
    replace q4 := zAs (g := g) (o := 3) (vs := [.int .i64 ((n : Int) + 1)]) q4 (fun q => hg (sb4 _ q))
    replace NT := zAs (g := g) (o := 3) (vs := [.int .i64 ((n : Int) + 1)]) NT (fun q => by rcases q with q | q; exact hg (sb5 _ q.1); omega)
    replace CH := CH.trans ((zBU [.int .i64 ((n : Int) + 1)] 3 wu (g := g)).mono fun k q => .inr q)
    have zwva := Nat.le_of_eq (zAj (g := g) [.int .i64 ((n : Int) + 1)] 3 wu)
    have zwvb := Nat.le_of_eq (zAj (g := g) [.int .i64 ((n : Int) + 1)] 3 wu).symm
    generalize (zAo wu g 3 [.int .i64 ((n : Int) + 1)]) = wv at G2 OC q1 q4 CH NT zwva zwvb ⊢
    have FO : zAn.own wv (fun k => S k ∨ (w.heap.size ≤ k ∧ k < wv.heap.size)) [.slice a0 c.1.length c0, .slice b0 c.2.length d0, .slice (some ⟨ob, oo, none⟩) p.length c1, .int .i64 ((n : Int) + 1), .int .i64 ph, .int .i64 h.1, .int .i64 h.2.1, .slice a4 h.2.2.length c4, .slice (some ⟨gt, 0, none⟩) (t.length + 1) ct] (fc.1, p, (n : Int) + 1, ph, h, t ++ [td]) := zC9 (show zBk ((n : Int) + 1) from ⟨by omega, by omega⟩) i3 OC q1 q4 NT (fun k q => by rcases q with q | q; exact .inl (sb0 _ q); exact .inr ⟨by omega, by omega⟩) (fun k q => .inl (sb1 _ q)) (fun k q => .inl (sb4 _ q)) (fun k q => by rcases q with q | q; exact .inl (sb5 _ q.1); exact .inr ⟨by omega, by omega⟩) (fun k a b => by rcases a with a | a; exact d01 k a b; (have := hS _ (sb1 _ b); omega)) (fun k a b => by rcases a with a | a; exact d04 k a b; (have := hS _ (sb4 _ b); omega)) (fun k a b => by rcases a with a | a; (rcases b with b | b; exact d05 k a b.1; (have := hS _ (sb0 _ a); omega)); (rcases b with b | b; (have := hS _ (sb5 _ b.1); omega); omega)) d14 (fun k a b => by rcases b with b | b; exact d15 k a b.1; (have := hS _ (sb1 _ a); omega)) (fun k a b => by rcases b with b | b; exact d45 k a b.1; (have := hS _ (sb4 _ a); omega))
    have HZ : Hid _ := And.intro FO (And.intro G2 CH)
    clear FO G2 CH OC q1 q4 NT sb0 sb1 sb4 sb5 d01 d04 d05 d14 d15 d45 hS hg i2 i3 NC HPR
    go_wp2
    go_ret
    exact ⟨[.slice a0 c.1.length c0, .slice b0 c.2.length d0, .slice (some ⟨ob, oo, none⟩) p.length c1, .int .i64 ((n : Int) + 1), .int .i64 ph, .int .i64 h.1, .int .i64 h.2.1, .slice a4 h.2.2.length c4, .slice (some ⟨gt, 0, none⟩) (t.length + 1) ct], zA2 hfb.symm, HX3.out hfb ▸ HZ.out.1, HZ.out.2.1, HZ.out.2.2⟩
 ·obtain rfl : s2 = 3 := by have := HS2.out; simpa using this
  obtain ⟨Gc0, Gc1, Gc2, Gc3, Gc4, Gc5, Gc6, Gc7, Gc8⟩ := zAc G
  have Glt := (Array.getElem?_eq_some_iff.1 G).1
  obtain ⟨Vc0, Vc1, Vc2⟩ := zAg V
  have Vlt := (Array.getElem?_eq_some_iff.1 V).1
  obtain ⟨Vf0, Vf1, Vf2⟩ := zLt V
  obtain ⟨Oc0, Oc1, Oc2, Oc3⟩ := zB3 O
  have Olt := (Array.getElem?_eq_some_iff.1 O).1
  go_upto_region 9 with fail
  clear Gc0 Gc1 Gc2 Gc3 Gc4 Gc5 Gc6 Gc7 Gc8 Glt Vc0 Vc1 Vc2 Vlt Vf0 Vf1 Vf2 Oc0 Oc1 Oc2 Oc3 Olt
  rw [show (u8w.setCell ⟨w.heap.size, 1, none⟩ (.int .i64 3)) = (zAo u8w (w.heap.size) 1 [.int .i64 3]) from rfl]
  replace G := zAk (g := w.heap.size) (o := 1) (vs := [.int .i64 3]) G (by omega)
  replace O := zAk (g := w.heap.size) (o := 1) (vs := [.int .i64 3]) O (by omega)
  replace D := zAw (g := w.heap.size) (o := 1) (vs := [.int .i64 3]) D (by omega)
  replace B := zAv (g := w.heap.size) (o := 1) (vs := [.int .i64 3]) B (by omega)
  replace V : (zAo u8w (w.heap.size) 1 [.int .i64 3]).heap[w.heap.size]? = some (.cells #[.int .i64 u.1, .int .i64 3, .slice (some ⟨gy, 0, none⟩) u.2.2.length yc] 39 (0, 0)) := zAC _ _ V
  have tu9w := Nat.le_of_eq (zAj (g := w.heap.size) [.int .i64 3] 1 u8w)
  have qu9w := Nat.le_of_eq (zAj (g := w.heap.size) [.int .i64 3] 1 u8w).symm
  generalize (zAo u8w (w.heap.size) 1 [.int .i64 3]) = u9w at B G V O D tu9w qu9w ⊢
  obtain ⟨c1o, c2o, o1, o4, o5, sb0, sb1, sb4, sb5, d01, d04, d05, d14, d15, d45, t1, t2, t12, hS, hg⟩ := HOW.out
  replace c1o := zBu.own_keep c1o (zAh B)
  replace c2o := zA5.own_keep c2o (zAh B)
  replace o1 := zBX.own_keep o1 (zAh B)
  replace o4 := zAS.own_keep o4 (zAh B)
  replace o5 := zA5.own_keep o5 (zAh B)
  obtain ⟨i2, i3, iu1, iu2⟩ := HII.out
  have gT1 : ¬ T1 g := fun q => hg (sb0 _ (t1 _ q))
  have gT2 : ¬ T2 g := fun q => hg (sb0 _ (t2 _ q))
  have HFL : Hid (Calls Tryz.prog 87 #[.pointer (some ⟨g, 0, none⟩), .agg #[.int .i64 u.1, .int .i64 3, .slice (some ⟨gy, 0, none⟩) u.2.2.length yc]] u9w.drew fun e w' => e = .returned (.bool fc.2) ∧ zBu.own w' (fun k => Old u9w T1 k ∨ (u9w.heap.size ≤ k ∧ k < w'.heap.size)) [.slice a0 c.1.length c0] fc.1.1 ∧ zA5.own w' T2 [.slice b0 c.2.length d0] fc.1.2 ∧ Chg (fun k => Old u9w T1 k ∨ T2 k) u9w w') := by
   exact zLu (C := #[.slice a0 c.1.length c0, .slice b0 c.2.length d0, .slice (some ⟨ob, oo, none⟩) p.length c1, .int .i64 (n : Int), .int .i64 ph, .int .i64 h.1, .int .i64 h.2.1, .slice a4 h.2.2.length c4, .slice a5 t.length c5]) HFC.out HOK.out rfl rfl G gT1 gT2 t12 c1o c2o iu1 (by constructor <;> decide) (zA5.own_rd D.1) (HDL.out.trans HUL.out.symm) (by have := HUL.out; omega)
  have HC9 : Hid _ := And.intro o1 (And.intro o4 (And.intro o5 (And.intro sb0 (And.intro sb1 (And.intro sb4 (And.intro sb5 (And.intro d01 (And.intro d04 (And.intro d05 (And.intro d14 (And.intro d15 (And.intro d45 (And.intro t1 (And.intro t2 (And.intro t12 (And.intro hS (And.intro hg (And.intro i2 (And.intro i3 (And.intro gT1 gT2))))))))))))))))))))
  clear c1o c2o o1 o4 o5 sb0 sb1 sb4 sb5 d01 d04 d05 d14 d15 d45 t1 t2 t12 hS hg i2 i3 iu1 iu2 gT1 gT2 HOW HII
  go_cut [53] (fun q wx => q = .bool (!fc.2) ∧ zBu.own wx (fun k => Old u9w T1 k ∨ (u9w.heap.size ≤ k ∧ k < wx.heap.size)) [.slice a0 c.1.length c0] fc.1.1 ∧ zA5.own wx T2 [.slice b0 c.2.length d0] fc.1.2 ∧ Chg (fun k => Old u9w T1 k ∨ T2 k) u9w wx)
  case first =>
   obtain ⟨Gc0, Gc1, Gc2, Gc3, Gc4, Gc5, Gc6, Gc7, Gc8⟩ := zAc G
   have Glt := (Array.getElem?_eq_some_iff.1 G).1
   obtain ⟨Vc0, Vc1, Vc2⟩ := zAg V
   have Vlt := (Array.getElem?_eq_some_iff.1 V).1
   obtain ⟨Oc0, Oc1, Oc2, Oc3⟩ := zB3 O
   have Olt := (Array.getElem?_eq_some_iff.1 O).1
   have HK : Hid _ := And.intro B (And.intro G (And.intro V (And.intro O (D))))
   clear B G V O D
   go_region_with (go_at_call 87; refine HFL.out.mono ?_; rintro e wf ⟨rfl, f1, f2, f3⟩)
   all_goals go_wp2_with fail
   all_goals go_meet
   all_goals exact ⟨rfl, f1, f2, f3⟩
  case rest =>
   obtain ⟨rfl, f1, f2, f3⟩ := hcut
   clear HFL
   generalize wc = wf at f1 f2 f3 ⊢
   obtain ⟨o1, o4, o5, sb0, sb1, sb4, sb5, d01, d04, d05, d14, d15, d45, t1, t2, t12, hS, hg, i2, i3, gT1, gT2⟩ := HC9.out
   have bsz := B.size
   have fsz := f3.size
   have nT : ∀ k, S0 k ∨ S1 k ∨ S4 k ∨ S5 k ∨ k = g → k < w.heap.size := fun k q => by rcases q with q | q | q | q | q; exact hS _ (sb0 _ q); exact hS _ (sb1 _ q); exact hS _ (sb4 _ q); exact hS _ (sb5 _ q); omega
   have G2 := (f3.block g (by omega) (fun q => by rcases q with q | q; exact gT1 q.1; exact gT2 q)).trans G
   have q1 := zAO o1 f3 (fun k a b => d01 k (by rcases b with b | b; exact t1 _ b.1; exact t2 _ b) a)
   have q4 := zAO o4 f3 (fun k a b => d04 k (by rcases b with b | b; exact t1 _ b.1; exact t2 _ b) a)
   have q5 := zAO o5 f3 (fun k a b => d05 k (by rcases b with b | b; exact t1 _ b.1; exact t2 _ b) a)
   have OC := zCd (c := fc.1) (S := fun k => S0 k ∨ (u9w.heap.size ≤ k ∧ k < wf.heap.size)) f1 f2 (fun k q => by rcases q with q | q; exact .inl (t1 _ q.1); exact .inr q) (fun k q => .inl (t2 _ q)) (fun k a b => by rcases a with a | a; exact t12 k a.1 b; (have := hS _ (sb0 _ (t2 _ b)); omega))
   have CH : Chg (fun k => S k ∨ k = g) w wf := (zA9 B).trans (f3.mono fun k q => .inl (by rcases q with q | q; exact sb0 _ (t1 _ q.1); exact sb0 _ (t2 _ q)))
   have clk : fc.1.1.length = c.1.length ∧ fc.1.2.length = c.2.length := by have a1 := zGt f1; have a2 := zGt f2; exact ⟨a1, a2⟩
   cases hfb : fc.2
   ·have hcc : fc.1 = c := by have := HKP.out _ (HFC.out ▸ hfb); rw [← HFC.out] at this; exact this
    have FO : zAn.own wf (fun k => S k ∨ (w.heap.size ≤ k ∧ k < wf.heap.size)) [.slice a0 c.1.length c0, .slice b0 c.2.length d0, .slice (some ⟨ob, oo, none⟩) p.length c1, .int .i64 (n : Int), .int .i64 ph, .int .i64 h.1, .int .i64 h.2.1, .slice a4 h.2.2.length c4, .slice a5 t.length c5] (c, p, (n : Int), ph, h, t) := by
     rw [hcc] at OC
     exact zC9 i2 i3 OC q1 q4 q5 (fun k q => by rcases q with q | q; exact .inl (sb0 _ q); exact .inr ⟨by omega, q.2⟩) (fun k q => .inl (sb1 _ q)) (fun k q => .inl (sb4 _ q)) (fun k q => .inl (sb5 _ q)) (fun k a b => by rcases a with a | a; exact d01 k a b; (have := hS _ (sb1 _ b); omega)) (fun k a b => by rcases a with a | a; exact d04 k a b; (have := hS _ (sb4 _ b); omega)) (fun k a b => by rcases a with a | a; exact d05 k a b; (have := hS _ (sb5 _ b); omega)) d14 d15 d45
    have HZ : Hid _ := And.intro FO (And.intro G2 CH)
    clear FO G2 CH OC q1 q4 q5 f1 f2 f3 o1 o4 o5 B G V O D clk HC9 nT
    go_wp2
    go_ret
    exact ⟨[.slice a0 c.1.length c0, .slice b0 c.2.length d0, .slice (some ⟨ob, oo, none⟩) p.length c1, .int .i64 (n : Int), .int .i64 ph, .int .i64 h.1, .int .i64 h.2.1, .slice a4 h.2.2.length c4, .slice a5 t.length c5], zA2 hfb.symm, HX2.out hfb ▸ HZ.out.1, HZ.out.2.1, HZ.out.2.2⟩
   ·skip
    have HPR : Hid _ := And.intro sb0 (And.intro sb1 (And.intro sb4 (And.intro sb5 (And.intro d01 (And.intro d04 (And.intro d05 (And.intro d14 (And.intro d15 (And.intro d45 (And.intro hS (And.intro hg (And.intro i2 i3))))))))))))
    have q5k := q5
    clear f1 f2 f3 o1 o4 o5 q5 B G V O D clk HC9 nT t1 t2 t12 gT1 gT2
    obtain ⟨y0, y1, y2, y3, y4, y5, y6, y7, y8⟩ := zAc G2
    obtain ⟨f0_, f1_, f2_, f3_, f4_, f5_, f6_, f7_, f8_⟩ := zAr G2
    have ylt := (Array.getElem?_eq_some_iff.1 G2).1
    have HZ : Hid _ := And.intro G2 (And.intro OC (And.intro q1 (And.intro q4 CH)))
    clear G2 OC q1 q4 CH sb0 sb1 sb4 sb5 d01 d04 d05 d14 d15 d45 hS hg i2 i3
    go_wp2_with (at_builtin; refine zEY (w := wf) rfl _ _ rfl S5 (.slice a5 t.length c5) t td htd64 rfl wf.heap.size 1 rfl rfl q5k (by omega) ?_)
    intro gt ct wt NT NC
    clear y0 y1 y2 y3 y4 y5 y6 y7 y8 f0_ f1_ f2_ f3_ f4_ f5_ f6_ f7_ f8_ ylt q5k
    obtain ⟨G2, OC, q1, q4, CH⟩ := HZ.out
    clear HZ
    obtain ⟨sb0, sb1, sb4, sb5, d01, d04, d05, d14, d15, d45, hS, hg, i2, i3⟩ := HPR.out
    have tsz := NC.size
    replace G2 := (NC.block g (by omega) (fun q => hg (sb5 _ q.1))).trans G2
    replace OC := zAO OC NC (fun k a b => by rcases a with a | a; exact d05 k a b.1; (have := hS _ (sb5 _ b.1); omega))
    replace q1 := zAO q1 NC (fun k a b => d15 k a b.1)
    replace q4 := zAO q4 NC (fun k a b => d45 k a b.1)
    replace CH := CH.trans (NC.mono fun k q => .inl (sb5 _ q.1))
    obtain ⟨y0, y1, y2, y3, y4, y5, y6, y7, y8⟩ := zAc G2
    obtain ⟨f0_, f1_, f2_, f3_, f4_, f5_, f6_, f7_, f8_⟩ := zAr G2
    have ylt := (Array.getElem?_eq_some_iff.1 G2).1
    have HZ : Hid _ := And.intro G2 (And.intro OC (And.intro q1 (And.intro q4 (And.intro CH (NT)))))
    clear G2 OC q1 q4 CH NT
    go_upto_region 12 with fail
    clear y0 y1 y2 y3 y4 y5 y6 y7 y8 f0_ f1_ f2_ f3_ f4_ f5_ f6_ f7_ f8_ ylt
    obtain ⟨G2, OC, q1, q4, CH, NT⟩ := HZ.out
    clear HZ
    rw [show wt.setCell ⟨g, 8, none⟩ (.slice (some ⟨gt, 0, none⟩) (t.length + 1) ct) = (zAo wt g 8 [.slice (some ⟨gt, 0, none⟩) (t.length + 1) ct]) from rfl]
    replace G2 : (zAo wt g 8 [.slice (some ⟨gt, 0, none⟩) (t.length + 1) ct]).heap[g]? = some (.cells #[.slice a0 c.1.length c0, .slice b0 c.2.length d0, .slice (some ⟨ob, oo, none⟩) p.length c1, .int .i64 (n : Int), .int .i64 ph, .int .i64 h.1, .int .i64 h.2.1, .slice a4 h.2.2.length c4, .slice (some ⟨gt, 0, none⟩) (t.length + 1) ct] 41 (0, 0)) := zAC _ _ G2
    replace OC := zAs (g := g) (o := 8) (vs := [.slice (some ⟨gt, 0, none⟩) (t.length + 1) ct]) OC (fun q => by rcases q with q | q; exact hg (sb0 _ q); omega)
    replace q1 := zAs (g := g) (o := 8) (vs := [.slice (some ⟨gt, 0, none⟩) (t.length + 1) ct]) q1 (fun q => hg (sb1 _ q))
    replace q4 := zAs (g := g) (o := 8) (vs := [.slice (some ⟨gt, 0, none⟩) (t.length + 1) ct]) q4 (fun q => hg (sb4 _ q))
    replace NT := zAs (g := g) (o := 8) (vs := [.slice (some ⟨gt, 0, none⟩) (t.length + 1) ct]) NT (fun q => by rcases q with q | q; exact hg (sb5 _ q.1); omega)
    replace CH := CH.trans ((zBU [.slice (some ⟨gt, 0, none⟩) (t.length + 1) ct] 8 wt (g := g)).mono fun k q => .inr q)
    have zwua := Nat.le_of_eq (zAj (g := g) [.slice (some ⟨gt, 0, none⟩) (t.length + 1) ct] 8 wt)
    have zwub := Nat.le_of_eq (zAj (g := g) [.slice (some ⟨gt, 0, none⟩) (t.length + 1) ct] 8 wt).symm
    generalize (zAo wt g 8 [.slice (some ⟨gt, 0, none⟩) (t.length + 1) ct]) = wu at G2 OC q1 q4 CH NT zwua zwub ⊢
    obtain ⟨y0, y1, y2, y3, y4, y5, y6, y7, y8⟩ := zAc G2
    obtain ⟨f0_, f1_, f2_, f3_, f4_, f5_, f6_, f7_, f8_⟩ := zAr G2
    have ylt := (Array.getElem?_eq_some_iff.1 G2).1
    have HZ : Hid _ := And.intro G2 (And.intro OC (And.intro q1 (And.intro q4 (And.intro CH (NT)))))
    clear G2 OC q1 q4 CH NT
    go_upto_region 13 with fail
    clear y0 y1 y2 y3 y4 y5 y6 y7 y8 f0_ f1_ f2_ f3_ f4_ f5_ f6_ f7_ f8_ ylt
    obtain ⟨G2, OC, q1, q4, CH, NT⟩ := HZ.out
    clear HZ
    rw [show wu.setCell ⟨g, 3, none⟩ (.int .i64 ((n : Int) + 1)) = (zAo wu g 3 [.int .i64 ((n : Int) + 1)]) from rfl]
    replace G2 : (zAo wu g 3 [.int .i64 ((n : Int) + 1)]).heap[g]? = some (.cells #[.slice a0 c.1.length c0, .slice b0 c.2.length d0, .slice (some ⟨ob, oo, none⟩) p.length c1, .int .i64 ((n : Int) + 1), .int .i64 ph, .int .i64 h.1, .int .i64 h.2.1, .slice a4 h.2.2.length c4, .slice (some ⟨gt, 0, none⟩) (t.length + 1) ct] 41 (0, 0)) := zAC _ _ G2
    replace OC := zAs (g := g) (o := 3) (vs := [.int .i64 ((n : Int) + 1)]) OC (fun q => by rcases q with q | q; exact hg (sb0 _ q); omega)
    replace q1 := zAs (g := g) (o := 3) (vs := [.int .i64 ((n : Int) + 1)]) q1 (fun q => hg (sb1 _ q))
    replace q4 := zAs (g := g) (o := 3) (vs := [.int .i64 ((n : Int) + 1)]) q4 (fun q => hg (sb4 _ q))
    replace NT := zAs (g := g) (o := 3) (vs := [.int .i64 ((n : Int) + 1)]) NT (fun q => by rcases q with q | q; exact hg (sb5 _ q.1); omega)
    replace CH := CH.trans ((zBU [.int .i64 ((n : Int) + 1)] 3 wu (g := g)).mono fun k q => .inr q)
    have zwva := Nat.le_of_eq (zAj (g := g) [.int .i64 ((n : Int) + 1)] 3 wu)
    have zwvb := Nat.le_of_eq (zAj (g := g) [.int .i64 ((n : Int) + 1)] 3 wu).symm
    generalize (zAo wu g 3 [.int .i64 ((n : Int) + 1)]) = wv at G2 OC q1 q4 CH NT zwva zwvb ⊢
    have FO : zAn.own wv (fun k => S k ∨ (w.heap.size ≤ k ∧ k < wv.heap.size)) [.slice a0 c.1.length c0, .slice b0 c.2.length d0, .slice (some ⟨ob, oo, none⟩) p.length c1, .int .i64 ((n : Int) + 1), .int .i64 ph, .int .i64 h.1, .int .i64 h.2.1, .slice a4 h.2.2.length c4, .slice (some ⟨gt, 0, none⟩) (t.length + 1) ct] (fc.1, p, (n : Int) + 1, ph, h, t ++ [td]) := zC9 (show zBk ((n : Int) + 1) from ⟨by omega, by omega⟩) i3 OC q1 q4 NT (fun k q => by rcases q with q | q; exact .inl (sb0 _ q); exact .inr ⟨by omega, by omega⟩) (fun k q => .inl (sb1 _ q)) (fun k q => .inl (sb4 _ q)) (fun k q => by rcases q with q | q; exact .inl (sb5 _ q.1); exact .inr ⟨by omega, by omega⟩) (fun k a b => by rcases a with a | a; exact d01 k a b; (have := hS _ (sb1 _ b); omega)) (fun k a b => by rcases a with a | a; exact d04 k a b; (have := hS _ (sb4 _ b); omega)) (fun k a b => by rcases a with a | a; (rcases b with b | b; exact d05 k a b.1; (have := hS _ (sb0 _ a); omega)); (rcases b with b | b; (have := hS _ (sb5 _ b.1); omega); omega)) d14 (fun k a b => by rcases b with b | b; exact d15 k a b.1; (have := hS _ (sb1 _ a); omega)) (fun k a b => by rcases b with b | b; exact d45 k a b.1; (have := hS _ (sb4 _ a); omega))
    have HZ : Hid _ := And.intro FO (And.intro G2 CH)
    clear FO G2 CH OC q1 q4 NT sb0 sb1 sb4 sb5 d01 d04 d05 d14 d15 d45 hS hg i2 i3 NC HPR
    go_wp2
    go_ret
    exact ⟨[.slice a0 c.1.length c0, .slice b0 c.2.length d0, .slice (some ⟨ob, oo, none⟩) p.length c1, .int .i64 ((n : Int) + 1), .int .i64 ph, .int .i64 h.1, .int .i64 h.2.1, .slice a4 h.2.2.length c4, .slice (some ⟨gt, 0, none⟩) (t.length + 1) ct], zA2 hfb.symm, HX3.out hfb ▸ HZ.out.1, HZ.out.2.1, HZ.out.2.2⟩
end Go.Proofs.YtoihjejenjcokaaGreatDoor
