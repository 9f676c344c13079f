import Derived.Test.YtoihjejenjcokaaGreatDoorP00Box
import Derived.Test.YtoihjejenjcokaaGreatDoorP29CoreEvict
import Derived.Test.YtoihjejenjcokaaGreatDoorP30GotQ
import Derived.Test.YtoihjejenjcokaaGreatDoorP32SpecDo
import Derived.BigQuiet
import Derived.Deep.QuietTactic
namespace Go.Proofs.YtoihjejenjcokaaGreatDoor
open Go.ChangeShapes Go.WideShapes Go.ChangeAt Go.RowKit
set_option linter.unusedVariables false
def zHy (S : zAX) (g : Nat) (w : World) (y : zAE) (a : zB5) (e : Ending) (w' : World) : Prop := ∃ ds ms, e = .returned (zAM ms) ∧ zAn.own w' (fun k => S k ∨ (w.heap.size ≤ k ∧ k < w'.heap.size)) ds y ∧ zBy.own w' (rng w.heap.size w'.heap.size) ms a ∧ w'.heap[g]? = some (.cells ds.toArray 41 (0, 0)) ∧ Chg (fun k => S k ∨ k = g) w w'
theorem zII {S : zAX} {g : Nat} {w W : World} (h : Below w.heap.size w W) : Chg (fun k => S k ∨ k = g) w W := zA9 h
set_option maxHeartbeats 8000000 in
set_option maxRecDepth 20000 in
theorem zIF (S : zAX) (g : Nat) (cs ns : List Value) (x : zAE) (m : zB5) (w : World) (ho : zAn.own w S cs x) (hS : ∀ k, S k → k < w.heap.size) (hg : ¬ S g) (hbox : w.heap[g]? = some (.cells cs.toArray 41 (0, 0))) (hm : zBy.rd w ns m) (hk : zAZ x = true) (hat : atC x.1 (zAt m) = none) (hno : ¬ (x.2.2.2.1 = 1 ∧ x.2.2.2.2.1.1 = m.2.2.2.2.1 ∧ x.2.2.2.2.1.2.1 ≠ 0)) :
    Calls Tryz.prog 58 #[.pointer (some ⟨g, 0, none⟩), zAM ns] w fun e w' => zHy S g w x (msg 2 0 4 9 m.2.2.2.2.1 [] 1) e w' := by
 have hok : OkC isL zAJ x.1 := (zB4 hk).ok
 obtain ⟨ma, mc, rfl, im0, im1, im2, im3, im4, im6, -, -, -⟩ := zBB hm
 obtain ⟨v0, v1, v2, v5, v6, v7, v8, S0, S1, S4, S5, rfl, i2, i3, o0, o1, o4, o5, sb0, sb1, sb4, sb5, d01, d04, d05, d14, d15, d45⟩ := zBd ho
 have r0 := zAB.own_rd o0
 obtain ⟨a0, c0, b0, d0, e0, -⟩ := zAH r0
 simp only [List.cons.injEq, and_true] at e0
 obtain ⟨rfl, rfl⟩ := e0
 obtain ⟨a1, c1, e1, -⟩ := zBX.own_rd o1
 simp only [List.cons.injEq, and_true] at e1
 obtain rfl := e1
 have r4 := zAS.own_rd o4
 obtain ⟨a4, c4, e4, ih1, ih2, -, -, q4⟩ := zAL r4
 simp only [List.cons.injEq, and_true] at e4
 obtain ⟨rfl, rfl, rfl⟩ := e4
 obtain ⟨a5, c5, e5, -⟩ := zA5.own_rd o5
 simp only [List.cons.injEq, and_true] at e5
 obtain rfl := e5
 have HAT : Hid (∀ W, Below w.heap.size w W → Calls Tryz.prog 54 #[.agg #[.slice a0 x.1.1.length c0, .slice b0 x.1.2.length d0], .int .i64 m.2.2.2.2.1] W fun e w' => e = .returned (.int .i64 (-1)) ∧ Below W.heap.size W w') := fun W hb => by have := zD0 [.slice a0 x.1.1.length c0, .slice b0 x.1.2.length d0] x.1 m.2.2.2.2.1 W hok (zAN r0 hb); rw [show zAt m = m.2.2.2.2.1 from rfl] at hat; rw [hat] at this; exact this
 have HSS : Hid _ := And.intro hS hg
 have G : w.heap[g]? = some (.cells #[.slice a0 x.1.1.length c0, .slice b0 x.1.2.length d0, .slice a1 x.2.1.length c1, .int .i64 x.2.2.1, .int .i64 x.2.2.2.1, .int .i64 x.2.2.2.2.1.1, .int .i64 x.2.2.2.2.1.2.1, .slice a4 x.2.2.2.2.1.2.2.length c4, .slice a5 x.2.2.2.2.2.length c5] 41 (0, 0)) := hbox
 have gl := (Array.getElem?_eq_some_iff.1 G).1
 have HO : Hid (∀ W, Below w.heap.size w W → zAn.own W S [.slice a0 x.1.1.length c0, .slice b0 x.1.2.length d0, .slice a1 x.2.1.length c1, .int .i64 x.2.2.1, .int .i64 x.2.2.2.1, .int .i64 x.2.2.2.2.1.1, .int .i64 x.2.2.2.2.1.2.1, .slice a4 x.2.2.2.2.1.2.2.length c4, .slice a5 x.2.2.2.2.2.length c5] x) := fun W hb => zAn.own_keep ho (zAh hb)
 obtain ⟨c, p, at_, ph, h, t⟩ := x
 simp only at *
 have him : zBk m.2.2.2.2.1 := im4
 clear ho hS hg r0 r4 q4 o0 o1 o4 o5 sb0 sb1 sb4 sb5 d01 d04 d05 d14 d15 d45 i2 i3 ih1 ih2 hk hok hm hbox im0 im1 im2 im3 im4 im6 hat
 by_cases hp : ph = 1
 ·have z1 : (ph == 1) = true := by simp [hp]
  by_cases hl : h.1 = m.2.2.2.2.1
  ·have z2 : (h.1 == m.2.2.2.2.1) = true := by simp [hl]
   have hs0 : h.2.1 = 0 := by
    by_cases z : h.2.1 = 0
    ·exact z
    ·exact absurd ⟨hp, hl, z⟩ hno
   have z3 : (h.2.1 != 0) = false := by simp [hs0]
   clear hs0 hp hl hno
   rw [show zAM [.int .i64 m.1, .int .i64 m.2.1, .int .i64 m.2.2.1, .int .i64 m.2.2.2.1, .int .i64 m.2.2.2.2.1, .slice ma m.2.2.2.2.2.1.length mc, .int .i64 m.2.2.2.2.2.2] = .agg #[.int .i64 m.1, .int .i64 m.2.1, .int .i64 m.2.2.1, .int .i64 m.2.2.2.1, .int .i64 m.2.2.2.2.1, .slice ma m.2.2.2.2.2.1.length mc, .int .i64 m.2.2.2.2.2.2] from rfl]
   have B := Below.refl w.heap.size w
   go_enter Tryz.func58, Tryz.ntmps58
   go_upto_region 1 with fail
   generalize hu1w : w.alloc _ = u1w
   have N := boxH hu1w
   have bz := boxB hu1w
   have zN := boxL hu1w
   clear hu1w
   replace B := zAb B bz
   replace G := zAa bz G
   clear bz
   have zNa := Nat.le_of_eq zN
   have zNb := Nat.le_of_eq zN.symm
   clear zN
   generalize hu2w : u1w.alloc _ = u2w
   have R := boxH hu2w
   have bz := boxB hu2w
   have zR := boxL hu2w
   clear hu2w
   rw [show u1w.heap.size = w.heap.size + 1 from by omega] at R
   replace B := zAb B bz
   replace G := zAa bz G
   replace N := zAa bz N
   clear bz
   have zRa := Nat.le_of_eq zR
   have zRb := Nat.le_of_eq zR.symm
   clear zR
   obtain ⟨Gc0, Gc1, Gc2, Gc3, Gc4, Gc5, Gc6, Gc7, Gc8⟩ := zAc G
   have Glt := (Array.getElem?_eq_some_iff.1 G).1
   obtain ⟨Nc0, Nc1, Nc2, Nc3, Nc4, Nc5, Nc6⟩ := zAe N
   have Nlt := (Array.getElem?_eq_some_iff.1 N).1
   obtain ⟨Rc0, Rc1, Rc2, Rc3, Rc4, Rc5, Rc6⟩ := zAe R
   have Rlt := (Array.getElem?_eq_some_iff.1 R).1
   go_upto_region 2 with fail
   clear Gc0 Gc1 Gc2 Gc3 Gc4 Gc5 Gc6 Gc7 Gc8 Glt Nc0 Nc1 Nc2 Nc3 Nc4 Nc5 Nc6 Nlt Rc0 Rc1 Rc2 Rc3 Rc4 Rc5 Rc6 Rlt
   generalize hu3w : u2w.alloc _ = u3w
   have O := boxH hu3w
   have bz := boxB hu3w
   have zO := boxL hu3w
   clear hu3w
   replace B := zAb B bz
   replace G := zAa bz G
   replace N := zAa bz N
   replace R := zAa bz R
   clear bz
   have zOa := Nat.le_of_eq zO
   have zOb := Nat.le_of_eq zO.symm
   clear zO
   have HATc : Hid (∀ n' : Cls (fun wx => Below u3w.heap.size u3w wx), _) := fun n' => HAT.out n'.w (zAb B n'.h)
   obtain ⟨Gc0, Gc1, Gc2, Gc3, Gc4, Gc5, Gc6, Gc7, Gc8⟩ := zAc G
   have Glt := (Array.getElem?_eq_some_iff.1 G).1
   obtain ⟨Nc0, Nc1, Nc2, Nc3, Nc4, Nc5, Nc6⟩ := zAe N
   have Nlt := (Array.getElem?_eq_some_iff.1 N).1
   obtain ⟨Rc0, Rc1, Rc2, Rc3, Rc4, Rc5, Rc6⟩ := zAe R
   have Rlt := (Array.getElem?_eq_some_iff.1 R).1
   obtain ⟨Oc0, Oc1, Oc2, Oc3, Oc4, Oc5, Oc6⟩ := zAe O
   have Olt := (Array.getElem?_eq_some_iff.1 O).1
   go_upto_region 2 with fail
   clear Gc0 Gc1 Gc2 Gc3 Gc4 Gc5 Gc6 Gc7 Gc8 Glt Nc0 Nc1 Nc2 Nc3 Nc4 Nc5 Nc6 Nlt Rc0 Rc1 Rc2 Rc3 Rc4 Rc5 Rc6 Rlt Oc0 Oc1 Oc2 Oc3 Oc4 Oc5 Oc6 Olt
   obtain ⟨Gc0, Gc1, Gc2, Gc3, Gc4, Gc5, Gc6, Gc7, Gc8⟩ := zAc G
   have Gk0 : ∀ n' : Cls (fun wx => Below u3w.heap.size u3w wx), n'.w.cell? ⟨g, 0, none⟩ = some (.slice a0 c.1.length c0) := fun n' => zAd n'.h Gc0 (zAi Gc0)
   have Gk1 : ∀ n' : Cls (fun wx => Below u3w.heap.size u3w wx), n'.w.cell? ⟨g, 1, none⟩ = some (.slice b0 c.2.length d0) := fun n' => zAd n'.h Gc1 (zAi Gc1)
   have Gk2 : ∀ n' : Cls (fun wx => Below u3w.heap.size u3w wx), n'.w.cell? ⟨g, 2, none⟩ = some (.slice a1 p.length c1) := fun n' => zAd n'.h Gc2 (zAi Gc2)
   have Gk3 : ∀ n' : Cls (fun wx => Below u3w.heap.size u3w wx), n'.w.cell? ⟨g, 3, none⟩ = some (.int .i64 at_) := fun n' => zAd n'.h Gc3 (zAi Gc3)
   have Gk4 : ∀ n' : Cls (fun wx => Below u3w.heap.size u3w wx), n'.w.cell? ⟨g, 4, none⟩ = some (.int .i64 ph) := fun n' => zAd n'.h Gc4 (zAi Gc4)
   have Gk5 : ∀ n' : Cls (fun wx => Below u3w.heap.size u3w wx), n'.w.cell? ⟨g, 5, none⟩ = some (.int .i64 h.1) := fun n' => zAd n'.h Gc5 (zAi Gc5)
   have Gk6 : ∀ n' : Cls (fun wx => Below u3w.heap.size u3w wx), n'.w.cell? ⟨g, 6, none⟩ = some (.int .i64 h.2.1) := fun n' => zAd n'.h Gc6 (zAi Gc6)
   have Gk7 : ∀ n' : Cls (fun wx => Below u3w.heap.size u3w wx), n'.w.cell? ⟨g, 7, none⟩ = some (.slice a4 h.2.2.length c4) := fun n' => zAd n'.h Gc7 (zAi Gc7)
   have Gk8 : ∀ n' : Cls (fun wx => Below u3w.heap.size u3w wx), n'.w.cell? ⟨g, 8, none⟩ = some (.slice a5 t.length c5) := fun n' => zAd n'.h Gc8 (zAi Gc8)
   clear Gc0 Gc1 Gc2 Gc3 Gc4 Gc5 Gc6 Gc7 Gc8
   obtain ⟨Nc0, Nc1, Nc2, Nc3, Nc4, Nc5, Nc6⟩ := zAe N
   have Nk0 : ∀ n' : Cls (fun wx => Below u3w.heap.size u3w wx), n'.w.cell? ⟨w.heap.size, 0, none⟩ = some (.int .i64 m.1) := fun n' => zAd n'.h Nc0 (zAi Nc0)
   have Nk1 : ∀ n' : Cls (fun wx => Below u3w.heap.size u3w wx), n'.w.cell? ⟨w.heap.size, 1, none⟩ = some (.int .i64 m.2.1) := fun n' => zAd n'.h Nc1 (zAi Nc1)
   have Nk2 : ∀ n' : Cls (fun wx => Below u3w.heap.size u3w wx), n'.w.cell? ⟨w.heap.size, 2, none⟩ = some (.int .i64 m.2.2.1) := fun n' => zAd n'.h Nc2 (zAi Nc2)
   have Nk3 : ∀ n' : Cls (fun wx => Below u3w.heap.size u3w wx), n'.w.cell? ⟨w.heap.size, 3, none⟩ = some (.int .i64 m.2.2.2.1) := fun n' => zAd n'.h Nc3 (zAi Nc3)
   have Nk4 : ∀ n' : Cls (fun wx => Below u3w.heap.size u3w wx), n'.w.cell? ⟨w.heap.size, 4, none⟩ = some (.int .i64 m.2.2.2.2.1) := fun n' => zAd n'.h Nc4 (zAi Nc4)
   have Nk5 : ∀ n' : Cls (fun wx => Below u3w.heap.size u3w wx), n'.w.cell? ⟨w.heap.size, 5, none⟩ = some (.slice ma m.2.2.2.2.2.1.length mc) := fun n' => zAd n'.h Nc5 (zAi Nc5)
   have Nk6 : ∀ n' : Cls (fun wx => Below u3w.heap.size u3w wx), n'.w.cell? ⟨w.heap.size, 6, none⟩ = some (.int .i64 m.2.2.2.2.2.2) := fun n' => zAd n'.h Nc6 (zAi Nc6)
   clear Nc0 Nc1 Nc2 Nc3 Nc4 Nc5 Nc6
   have HFX : Hid _ := And.intro B (And.intro G (And.intro N (And.intro R (O))))
   clear B G N R O
   refine zA8 (fun wx => Below u3w.heap.size u3w wx) (by kernel_rfl) (by kernel_rfl) ((Below.refl _ u3w).drew) ?_
   intro hne
   repeat (quiet_step (first | (go_at_call 54; exact zAz (HATc.out _) (fun w' hc bb => zAb hc bb))))
   refine wpQuiet_nil ?_
   intro u4w bq
   clear Gk0 Gk1 Gk2 Gk3 Gk4 Gk5 Gk6 Gk7 Gk8 Nk0 Nk1 Nk2 Nk3 Nk4 Nk5 Nk6 hne
   obtain ⟨B, G, N, R, O⟩ := HFX.out
   clear HFX
   have tu4w : u3w.heap.size ≤ u4w.heap.size := bq.size
   replace B := zAb B bq
   replace G := zAa bq G
   replace N := zAa bq N
   replace R := zAa bq R
   replace O := zAa bq O
   clear bq
   clear HATc HAT
   obtain ⟨Gc0, Gc1, Gc2, Gc3, Gc4, Gc5, Gc6, Gc7, Gc8⟩ := zAc G
   have Glt := (Array.getElem?_eq_some_iff.1 G).1
   obtain ⟨Nc0, Nc1, Nc2, Nc3, Nc4, Nc5, Nc6⟩ := zAe N
   have Nlt := (Array.getElem?_eq_some_iff.1 N).1
   obtain ⟨Rc0, Rc1, Rc2, Rc3, Rc4, Rc5, Rc6⟩ := zAe R
   have Rlt := (Array.getElem?_eq_some_iff.1 R).1
   obtain ⟨Oc0, Oc1, Oc2, Oc3, Oc4, Oc5, Oc6⟩ := zAe O
   have Olt := (Array.getElem?_eq_some_iff.1 O).1
   go_upto_region 13 with fail
   clear Gc0 Gc1 Gc2 Gc3 Gc4 Gc5 Gc6 Gc7 Gc8 Glt Nc0 Nc1 Nc2 Nc3 Nc4 Nc5 Nc6 Nlt Rc0 Rc1 Rc2 Rc3 Rc4 Rc5 Rc6 Rlt Oc0 Oc1 Oc2 Oc3 Oc4 Oc5 Oc6 Olt
   go_cut [83] (fun q wx => q = .bool false ∧ Below u4w.heap.size u4w wx)
   case first =>
    obtain ⟨Gc0, Gc1, Gc2, Gc3, Gc4, Gc5, Gc6, Gc7, Gc8⟩ := zAc G
    have Glt := (Array.getElem?_eq_some_iff.1 G).1
    obtain ⟨Nc0, Nc1, Nc2, Nc3, Nc4, Nc5, Nc6⟩ := zAe N
    have Nlt := (Array.getElem?_eq_some_iff.1 N).1
    obtain ⟨Rc0, Rc1, Rc2, Rc3, Rc4, Rc5, Rc6⟩ := zAe R
    have Rlt := (Array.getElem?_eq_some_iff.1 R).1
    obtain ⟨Oc0, Oc1, Oc2, Oc3, Oc4, Oc5, Oc6⟩ := zAe O
    have Olt := (Array.getElem?_eq_some_iff.1 O).1
    clear B G N R O
    go_quiet (fail)
    go_wp2_with fail
    go_meet
    exact ⟨rfl, zBt (Below.refl _ _) _⟩
   case rest =>
    obtain ⟨rfl, bq⟩ := hcut
    generalize wc = u5w at bq ⊢
    have tu5w : u4w.heap.size ≤ u5w.heap.size := bq.size
    replace B := zAb B bq
    replace G := zAa bq G
    replace N := zAa bq N
    replace R := zAa bq R
    replace O := zAa bq O
    clear bq
    obtain ⟨Gc0, Gc1, Gc2, Gc3, Gc4, Gc5, Gc6, Gc7, Gc8⟩ := zAc G
    have Glt := (Array.getElem?_eq_some_iff.1 G).1
    obtain ⟨Nc0, Nc1, Nc2, Nc3, Nc4, Nc5, Nc6⟩ := zAe N
    have Nlt := (Array.getElem?_eq_some_iff.1 N).1
    obtain ⟨Rc0, Rc1, Rc2, Rc3, Rc4, Rc5, Rc6⟩ := zAe R
    have Rlt := (Array.getElem?_eq_some_iff.1 R).1
    obtain ⟨Oc0, Oc1, Oc2, Oc3, Oc4, Oc5, Oc6⟩ := zAe O
    have Olt := (Array.getElem?_eq_some_iff.1 O).1
    obtain ⟨Of0, Of1, Of2, Of3, Of4, Of5, Of6⟩ := zB8 O
    go_upto_region 21 with fail
    clear Gc0 Gc1 Gc2 Gc3 Gc4 Gc5 Gc6 Gc7 Gc8 Glt Nc0 Nc1 Nc2 Nc3 Nc4 Nc5 Nc6 Nlt Rc0 Rc1 Rc2 Rc3 Rc4 Rc5 Rc6 Rlt Oc0 Oc1 Oc2 Oc3 Oc4 Oc5 Oc6 Olt Of0 Of1 Of2 Of3 Of4 Of5 Of6
    rw [show (u5w.setCell ⟨u2w.heap.size, 6, none⟩ (.int .i64 1)) = (zAo u5w (u2w.heap.size) 6 [.int .i64 1]) from rfl]
    replace G := zAk (g := u2w.heap.size) (o := 6) (vs := [.int .i64 1]) G (by omega)
    replace N := zAk (g := u2w.heap.size) (o := 6) (vs := [.int .i64 1]) N (by omega)
    replace R := zAk (g := u2w.heap.size) (o := 6) (vs := [.int .i64 1]) R (by omega)
    replace B := zAv (g := u2w.heap.size) (o := 6) (vs := [.int .i64 1]) B (by omega)
    replace O : (zAo u5w (u2w.heap.size) 6 [.int .i64 1]).heap[u2w.heap.size]? = some (.cells #[.int .i64 2, .int .i64 0, .int .i64 4, .int .i64 9, .int .i64 m.2.2.2.2.1, .slice none 0 0, .int .i64 1] 46 (0, 0)) := zAC _ _ O
    have tu6w := Nat.le_of_eq (zAj (g := u2w.heap.size) [.int .i64 1] 6 u5w)
    have qu6w := Nat.le_of_eq (zAj (g := u2w.heap.size) [.int .i64 1] 6 u5w).symm
    generalize (zAo u5w (u2w.heap.size) 6 [.int .i64 1]) = u6w at B G N R O tu6w qu6w ⊢
    obtain ⟨Gc0, Gc1, Gc2, Gc3, Gc4, Gc5, Gc6, Gc7, Gc8⟩ := zAc G
    have Glt := (Array.getElem?_eq_some_iff.1 G).1
    obtain ⟨Nc0, Nc1, Nc2, Nc3, Nc4, Nc5, Nc6⟩ := zAe N
    have Nlt := (Array.getElem?_eq_some_iff.1 N).1
    obtain ⟨Rc0, Rc1, Rc2, Rc3, Rc4, Rc5, Rc6⟩ := zAe R
    have Rlt := (Array.getElem?_eq_some_iff.1 R).1
    obtain ⟨Rf0, Rf1, Rf2, Rf3, Rf4, Rf5, Rf6⟩ := zB8 R
    obtain ⟨Oc0, Oc1, Oc2, Oc3, Oc4, Oc5, Oc6⟩ := zAe O
    have Olt := (Array.getElem?_eq_some_iff.1 O).1
    have ne1 : ¬ (u2w.heap.size = w.heap.size + 1) := by omega
    have ne2 : ¬ (w.heap.size + 1 = u2w.heap.size) := by omega
    have HK : Hid _ := And.intro B (And.intro G (And.intro N (And.intro R (O))))
    clear B G N R O
    go_wp2
    clear ne1 ne2
    clear Gc0 Gc1 Gc2 Gc3 Gc4 Gc5 Gc6 Gc7 Gc8 Glt Nc0 Nc1 Nc2 Nc3 Nc4 Nc5 Nc6 Nlt Rc0 Rc1 Rc2 Rc3 Rc4 Rc5 Rc6 Rlt Rf0 Rf1 Rf2 Rf3 Rf4 Rf5 Rf6 Oc0 Oc1 Oc2 Oc3 Oc4 Oc5 Oc6 Olt
    obtain ⟨B, G, N, R, O⟩ := HK.out
    clear HK
    have bsz := B.size
    have V3 : (zAo u6w (w.heap.size + 1) 0 [.int .i64 2, .int .i64 0, .int .i64 4, .int .i64 9, .int .i64 m.2.2.2.2.1, .slice none 0 0, .int .i64 1]).heap[w.heap.size + 1]? = some (.cells #[.int .i64 2, .int .i64 0, .int .i64 4, .int .i64 9, .int .i64 m.2.2.2.2.1, .slice none 0 0, .int .i64 1] 46 (0, 0)) := zGL R
    obtain ⟨r0, r1, r2, r3, r4, r5, r6⟩ := zAe V3
    have FS : (zAo u6w (w.heap.size + 1) 0 [.int .i64 2, .int .i64 0, .int .i64 4, .int .i64 9, .int .i64 m.2.2.2.2.1, .slice none 0 0, .int .i64 1]).heap.size = u6w.heap.size := zAj _ _ _
    have FQ : zHy S g w (c, p, at_, ph, h, t) (msg 2 0 4 9 m.2.2.2.2.1 [] 1) (.returned (zAM [.int .i64 2, .int .i64 0, .int .i64 4, .int .i64 9, .int .i64 m.2.2.2.2.1, .slice none 0 0, .int .i64 1])) (zAo u6w (w.heap.size + 1) 0 [.int .i64 2, .int .i64 0, .int .i64 4, .int .i64 9, .int .i64 m.2.2.2.2.1, .slice none 0 0, .int .i64 1]) := ⟨[.slice a0 c.1.length c0, .slice b0 c.2.length d0, .slice a1 p.length c1, .int .i64 at_, .int .i64 ph, .int .i64 h.1, .int .i64 h.2.1, .slice a4 h.2.2.length c4, .slice a5 t.length c5], [.int .i64 2, .int .i64 0, .int .i64 4, .int .i64 9, .int .i64 m.2.2.2.2.1, .slice none 0 0, .int .i64 1], rfl, zAn.own_mono (zAs (g := w.heap.size + 1) (o := 0) (vs := [.int .i64 2, .int .i64 0, .int .i64 4, .int .i64 9, .int .i64 m.2.2.2.2.1, .slice none 0 0, .int .i64 1]) (HO.out _ B) (fun q => by have := HSS.out.1 _ q; omega)) (fun k q => by rw [FS]; exact (.inl q)), zBy.own_mono (zAs (g := w.heap.size + 1) (o := 0) (vs := [.int .i64 2, .int .i64 0, .int .i64 4, .int .i64 9, .int .i64 m.2.2.2.2.1, .slice none 0 0, .int .i64 1]) (zBR (S := fun _ => False) (by constructor <;> decide) (by constructor <;> decide) (by constructor <;> decide) (by constructor <;> decide) him (by constructor <;> decide) (zBA _ _)) (fun q => q)) (fun k q => by rw [FS]; exact (q.elim)), zAk (g := w.heap.size + 1) (o := 0) (vs := [.int .i64 2, .int .i64 0, .int .i64 4, .int .i64 9, .int .i64 m.2.2.2.2.1, .slice none 0 0, .int .i64 1]) G (by omega), zBg (zII B) (by omega)⟩
    simp only [zA0, zA3, Nat.reduceAdd] at FQ r0 r1 r2 r3 r4 r5 r6
    rw [show zAM [.int .i64 2, .int .i64 0, .int .i64 4, .int .i64 9, .int .i64 m.2.2.2.2.1, .slice none 0 0, .int .i64 1] = .agg #[.int .i64 2, .int .i64 0, .int .i64 4, .int .i64 9, .int .i64 m.2.2.2.2.1, .slice none 0 0, .int .i64 1] from rfl] at FQ
    clear B G N R O V3 FS
    refine bodyPost_ret (v := .agg #[.int .i64 2, .int .i64 0, .int .i64 4, .int .i64 9, .int .i64 m.2.2.2.2.1, .slice none 0 0, .int .i64 1]) (by simp [results, Tryz.results58, go_sem, r0, r1, r2, r3, r4, r5, r6]) rfl ?_
    exact FQ
  ·have z2 : (h.1 == m.2.2.2.2.1) = false := by simp [hl]
   clear hp hl hno
   rw [show zAM [.int .i64 m.1, .int .i64 m.2.1, .int .i64 m.2.2.1, .int .i64 m.2.2.2.1, .int .i64 m.2.2.2.2.1, .slice ma m.2.2.2.2.2.1.length mc, .int .i64 m.2.2.2.2.2.2] = .agg #[.int .i64 m.1, .int .i64 m.2.1, .int .i64 m.2.2.1, .int .i64 m.2.2.2.1, .int .i64 m.2.2.2.2.1, .slice ma m.2.2.2.2.2.1.length mc, .int .i64 m.2.2.2.2.2.2] from rfl]
   have B := Below.refl w.heap.size w
   go_enter Tryz.func58, Tryz.ntmps58
   go_upto_region 1 with fail
   generalize hu1w : w.alloc _ = u1w
   have N := boxH hu1w
   have bz := boxB hu1w
   have zN := boxL hu1w
   clear hu1w
   replace B := zAb B bz
   replace G := zAa bz G
   clear bz
   have zNa := Nat.le_of_eq zN
   have zNb := Nat.le_of_eq zN.symm
   clear zN
   generalize hu2w : u1w.alloc _ = u2w
   have R := boxH hu2w
   have bz := boxB hu2w
   have zR := boxL hu2w
   clear hu2w
   rw [show u1w.heap.size = w.heap.size + 1 from by omega] at R
   replace B := zAb B bz
   replace G := zAa bz G
   replace N := zAa bz N
   clear bz
   have zRa := Nat.le_of_eq zR
   have zRb := Nat.le_of_eq zR.symm
   clear zR
   obtain ⟨Gc0, Gc1, Gc2, Gc3, Gc4, Gc5, Gc6, Gc7, Gc8⟩ := zAc G
   have Glt := (Array.getElem?_eq_some_iff.1 G).1
   obtain ⟨Nc0, Nc1, Nc2, Nc3, Nc4, Nc5, Nc6⟩ := zAe N
   have Nlt := (Array.getElem?_eq_some_iff.1 N).1
   obtain ⟨Rc0, Rc1, Rc2, Rc3, Rc4, Rc5, Rc6⟩ := zAe R
   have Rlt := (Array.getElem?_eq_some_iff.1 R).1
   go_upto_region 2 with fail
   clear Gc0 Gc1 Gc2 Gc3 Gc4 Gc5 Gc6 Gc7 Gc8 Glt Nc0 Nc1 Nc2 Nc3 Nc4 Nc5 Nc6 Nlt Rc0 Rc1 Rc2 Rc3 Rc4 Rc5 Rc6 Rlt
   generalize hu3w : u2w.alloc _ = u3w
   have O := boxH hu3w
   have bz := boxB hu3w
   have zO := boxL hu3w
   clear hu3w
   replace B := zAb B bz
   replace G := zAa bz G
   replace N := zAa bz N
   replace R := zAa bz R
   clear bz
   have zOa := Nat.le_of_eq zO
   have zOb := Nat.le_of_eq zO.symm
   clear zO
   have HATc : Hid (∀ n' : Cls (fun wx => Below u3w.heap.size u3w wx), _) := fun n' => HAT.out n'.w (zAb B n'.h)
   obtain ⟨Gc0, Gc1, Gc2, Gc3, Gc4, Gc5, Gc6, Gc7, Gc8⟩ := zAc G
   have Glt := (Array.getElem?_eq_some_iff.1 G).1
   obtain ⟨Nc0, Nc1, Nc2, Nc3, Nc4, Nc5, Nc6⟩ := zAe N
   have Nlt := (Array.getElem?_eq_some_iff.1 N).1
   obtain ⟨Rc0, Rc1, Rc2, Rc3, Rc4, Rc5, Rc6⟩ := zAe R
   have Rlt := (Array.getElem?_eq_some_iff.1 R).1
   obtain ⟨Oc0, Oc1, Oc2, Oc3, Oc4, Oc5, Oc6⟩ := zAe O
   have Olt := (Array.getElem?_eq_some_iff.1 O).1
   go_upto_region 2 with fail
   clear Gc0 Gc1 Gc2 Gc3 Gc4 Gc5 Gc6 Gc7 Gc8 Glt Nc0 Nc1 Nc2 Nc3 Nc4 Nc5 Nc6 Nlt Rc0 Rc1 Rc2 Rc3 Rc4 Rc5 Rc6 Rlt Oc0 Oc1 Oc2 Oc3 Oc4 Oc5 Oc6 Olt
   obtain ⟨Gc0, Gc1, Gc2, Gc3, Gc4, Gc5, Gc6, Gc7, Gc8⟩ := zAc G
   have Gk0 : ∀ n' : Cls (fun wx => Below u3w.heap.size u3w wx), n'.w.cell? ⟨g, 0, none⟩ = some (.slice a0 c.1.length c0) := fun n' => zAd n'.h Gc0 (zAi Gc0)
   have Gk1 : ∀ n' : Cls (fun wx => Below u3w.heap.size u3w wx), n'.w.cell? ⟨g, 1, none⟩ = some (.slice b0 c.2.length d0) := fun n' => zAd n'.h Gc1 (zAi Gc1)
   have Gk2 : ∀ n' : Cls (fun wx => Below u3w.heap.size u3w wx), n'.w.cell? ⟨g, 2, none⟩ = some (.slice a1 p.length c1) := fun n' => zAd n'.h Gc2 (zAi Gc2)
   have Gk3 : ∀ n' : Cls (fun wx => Below u3w.heap.size u3w wx), n'.w.cell? ⟨g, 3, none⟩ = some (.int .i64 at_) := fun n' => zAd n'.h Gc3 (zAi Gc3)
   have Gk4 : ∀ n' : Cls (fun wx => Below u3w.heap.size u3w wx), n'.w.cell? ⟨g, 4, none⟩ = some (.int .i64 ph) := fun n' => zAd n'.h Gc4 (zAi Gc4)
   have Gk5 : ∀ n' : Cls (fun wx => Below u3w.heap.size u3w wx), n'.w.cell? ⟨g, 5, none⟩ = some (.int .i64 h.1) := fun n' => zAd n'.h Gc5 (zAi Gc5)
   have Gk6 : ∀ n' : Cls (fun wx => Below u3w.heap.size u3w wx), n'.w.cell? ⟨g, 6, none⟩ = some (.int .i64 h.2.1) := fun n' => zAd n'.h Gc6 (zAi Gc6)
   have Gk7 : ∀ n' : Cls (fun wx => Below u3w.heap.size u3w wx), n'.w.cell? ⟨g, 7, none⟩ = some (.slice a4 h.2.2.length c4) := fun n' => zAd n'.h Gc7 (zAi Gc7)
   have Gk8 : ∀ n' : Cls (fun wx => Below u3w.heap.size u3w wx), n'.w.cell? ⟨g, 8, none⟩ = some (.slice a5 t.length c5) := fun n' => zAd n'.h Gc8 (zAi Gc8)
   clear Gc0 Gc1 Gc2 Gc3 Gc4 Gc5 Gc6 Gc7 Gc8
   obtain ⟨Nc0, Nc1, Nc2, Nc3, Nc4, Nc5, Nc6⟩ := zAe N
   have Nk0 : ∀ n' : Cls (fun wx => Below u3w.heap.size u3w wx), n'.w.cell? ⟨w.heap.size, 0, none⟩ = some (.int .i64 m.1) := fun n' => zAd n'.h Nc0 (zAi Nc0)
   have Nk1 : ∀ n' : Cls (fun wx => Below u3w.heap.size u3w wx), n'.w.cell? ⟨w.heap.size, 1, none⟩ = some (.int .i64 m.2.1) := fun n' => zAd n'.h Nc1 (zAi Nc1)
   have Nk2 : ∀ n' : Cls (fun wx => Below u3w.heap.size u3w wx), n'.w.cell? ⟨w.heap.size, 2, none⟩ = some (.int .i64 m.2.2.1) := fun n' => zAd n'.h Nc2 (zAi Nc2)
   have Nk3 : ∀ n' : Cls (fun wx => Below u3w.heap.size u3w wx), n'.w.cell? ⟨w.heap.size, 3, none⟩ = some (.int .i64 m.2.2.2.1) := fun n' => zAd n'.h Nc3 (zAi Nc3)
   have Nk4 : ∀ n' : Cls (fun wx => Below u3w.heap.size u3w wx), n'.w.cell? ⟨w.heap.size, 4, none⟩ = some (.int .i64 m.2.2.2.2.1) := fun n' => zAd n'.h Nc4 (zAi Nc4)
   have Nk5 : ∀ n' : Cls (fun wx => Below u3w.heap.size u3w wx), n'.w.cell? ⟨w.heap.size, 5, none⟩ = some (.slice ma m.2.2.2.2.2.1.length mc) := fun n' => zAd n'.h Nc5 (zAi Nc5)
   have Nk6 : ∀ n' : Cls (fun wx => Below u3w.heap.size u3w wx), n'.w.cell? ⟨w.heap.size, 6, none⟩ = some (.int .i64 m.2.2.2.2.2.2) := fun n' => zAd n'.h Nc6 (zAi Nc6)
   clear Nc0 Nc1 Nc2 Nc3 Nc4 Nc5 Nc6
   have HFX : Hid _ := And.intro B (And.intro G (And.intro N (And.intro R (O))))
   clear B G N R O
   refine zA8 (fun wx => Below u3w.heap.size u3w wx) (by kernel_rfl) (by kernel_rfl) ((Below.refl _ u3w).drew) ?_
   intro hne
   repeat (quiet_step (first | (go_at_call 54; exact zAz (HATc.out _) (fun w' hc bb => zAb hc bb))))
   refine wpQuiet_nil ?_
   intro u4w bq
   clear Gk0 Gk1 Gk2 Gk3 Gk4 Gk5 Gk6 Gk7 Gk8 Nk0 Nk1 Nk2 Nk3 Nk4 Nk5 Nk6 hne
   obtain ⟨B, G, N, R, O⟩ := HFX.out
   clear HFX
   have tu4w : u3w.heap.size ≤ u4w.heap.size := bq.size
   replace B := zAb B bq
   replace G := zAa bq G
   replace N := zAa bq N
   replace R := zAa bq R
   replace O := zAa bq O
   clear bq
   clear HATc HAT
   obtain ⟨Gc0, Gc1, Gc2, Gc3, Gc4, Gc5, Gc6, Gc7, Gc8⟩ := zAc G
   have Glt := (Array.getElem?_eq_some_iff.1 G).1
   obtain ⟨Nc0, Nc1, Nc2, Nc3, Nc4, Nc5, Nc6⟩ := zAe N
   have Nlt := (Array.getElem?_eq_some_iff.1 N).1
   obtain ⟨Rc0, Rc1, Rc2, Rc3, Rc4, Rc5, Rc6⟩ := zAe R
   have Rlt := (Array.getElem?_eq_some_iff.1 R).1
   obtain ⟨Oc0, Oc1, Oc2, Oc3, Oc4, Oc5, Oc6⟩ := zAe O
   have Olt := (Array.getElem?_eq_some_iff.1 O).1
   go_upto_region 13 with fail
   clear Gc0 Gc1 Gc2 Gc3 Gc4 Gc5 Gc6 Gc7 Gc8 Glt Nc0 Nc1 Nc2 Nc3 Nc4 Nc5 Nc6 Nlt Rc0 Rc1 Rc2 Rc3 Rc4 Rc5 Rc6 Rlt Oc0 Oc1 Oc2 Oc3 Oc4 Oc5 Oc6 Olt
   go_cut [83] (fun q wx => q = .bool false ∧ Below u4w.heap.size u4w wx)
   case first =>
    obtain ⟨Gc0, Gc1, Gc2, Gc3, Gc4, Gc5, Gc6, Gc7, Gc8⟩ := zAc G
    have Glt := (Array.getElem?_eq_some_iff.1 G).1
    obtain ⟨Nc0, Nc1, Nc2, Nc3, Nc4, Nc5, Nc6⟩ := zAe N
    have Nlt := (Array.getElem?_eq_some_iff.1 N).1
    obtain ⟨Rc0, Rc1, Rc2, Rc3, Rc4, Rc5, Rc6⟩ := zAe R
    have Rlt := (Array.getElem?_eq_some_iff.1 R).1
    obtain ⟨Oc0, Oc1, Oc2, Oc3, Oc4, Oc5, Oc6⟩ := zAe O
    have Olt := (Array.getElem?_eq_some_iff.1 O).1
    clear B G N R O
    go_quiet (fail)
    go_wp2_with fail
    go_meet
    exact ⟨rfl, zBt (Below.refl _ _) _⟩
   case rest =>
    obtain ⟨rfl, bq⟩ := hcut
    generalize wc = u5w at bq ⊢
    have tu5w : u4w.heap.size ≤ u5w.heap.size := bq.size
    replace B := zAb B bq
    replace G := zAa bq G
    replace N := zAa bq N
    replace R := zAa bq R
    replace O := zAa bq O
    clear bq
    obtain ⟨Gc0, Gc1, Gc2, Gc3, Gc4, Gc5, Gc6, Gc7, Gc8⟩ := zAc G
    have Glt := (Array.getElem?_eq_some_iff.1 G).1
    obtain ⟨Nc0, Nc1, Nc2, Nc3, Nc4, Nc5, Nc6⟩ := zAe N
    have Nlt := (Array.getElem?_eq_some_iff.1 N).1
    obtain ⟨Rc0, Rc1, Rc2, Rc3, Rc4, Rc5, Rc6⟩ := zAe R
    have Rlt := (Array.getElem?_eq_some_iff.1 R).1
    obtain ⟨Oc0, Oc1, Oc2, Oc3, Oc4, Oc5, Oc6⟩ := zAe O
    have Olt := (Array.getElem?_eq_some_iff.1 O).1
    obtain ⟨Of0, Of1, Of2, Of3, Of4, Of5, Of6⟩ := zB8 O
    go_upto_region 21 with fail
    clear Gc0 Gc1 Gc2 Gc3 Gc4 Gc5 Gc6 Gc7 Gc8 Glt Nc0 Nc1 Nc2 Nc3 Nc4 Nc5 Nc6 Nlt Rc0 Rc1 Rc2 Rc3 Rc4 Rc5 Rc6 Rlt Oc0 Oc1 Oc2 Oc3 Oc4 Oc5 Oc6 Olt Of0 Of1 Of2 Of3 Of4 Of5 Of6
    rw [show (u5w.setCell ⟨u2w.heap.size, 6, none⟩ (.int .i64 1)) = (zAo u5w (u2w.heap.size) 6 [.int .i64 1]) from rfl]
    replace G := zAk (g := u2w.heap.size) (o := 6) (vs := [.int .i64 1]) G (by omega)
    replace N := zAk (g := u2w.heap.size) (o := 6) (vs := [.int .i64 1]) N (by omega)
    replace R := zAk (g := u2w.heap.size) (o := 6) (vs := [.int .i64 1]) R (by omega)
    replace B := zAv (g := u2w.heap.size) (o := 6) (vs := [.int .i64 1]) B (by omega)
    replace O : (zAo u5w (u2w.heap.size) 6 [.int .i64 1]).heap[u2w.heap.size]? = some (.cells #[.int .i64 2, .int .i64 0, .int .i64 4, .int .i64 9, .int .i64 m.2.2.2.2.1, .slice none 0 0, .int .i64 1] 46 (0, 0)) := zAC _ _ O
    have tu6w := Nat.le_of_eq (zAj (g := u2w.heap.size) [.int .i64 1] 6 u5w)
    have qu6w := Nat.le_of_eq (zAj (g := u2w.heap.size) [.int .i64 1] 6 u5w).symm
    generalize (zAo u5w (u2w.heap.size) 6 [.int .i64 1]) = u6w at B G N R O tu6w qu6w ⊢
    obtain ⟨Gc0, Gc1, Gc2, Gc3, Gc4, Gc5, Gc6, Gc7, Gc8⟩ := zAc G
    have Glt := (Array.getElem?_eq_some_iff.1 G).1
    obtain ⟨Nc0, Nc1, Nc2, Nc3, Nc4, Nc5, Nc6⟩ := zAe N
    have Nlt := (Array.getElem?_eq_some_iff.1 N).1
    obtain ⟨Rc0, Rc1, Rc2, Rc3, Rc4, Rc5, Rc6⟩ := zAe R
    have Rlt := (Array.getElem?_eq_some_iff.1 R).1
    obtain ⟨Rf0, Rf1, Rf2, Rf3, Rf4, Rf5, Rf6⟩ := zB8 R
    obtain ⟨Oc0, Oc1, Oc2, Oc3, Oc4, Oc5, Oc6⟩ := zAe O
    have Olt := (Array.getElem?_eq_some_iff.1 O).1
    have ne1 : ¬ (u2w.heap.size = w.heap.size + 1) := by omega
    have ne2 : ¬ (w.heap.size + 1 = u2w.heap.size) := by omega
    have HK : Hid _ := And.intro B (And.intro G (And.intro N (And.intro R (O))))
    clear B G N R O
    go_wp2
    clear ne1 ne2
    clear Gc0 Gc1 Gc2 Gc3 Gc4 Gc5 Gc6 Gc7 Gc8 Glt Nc0 Nc1 Nc2 Nc3 Nc4 Nc5 Nc6 Nlt Rc0 Rc1 Rc2 Rc3 Rc4 Rc5 Rc6 Rlt Rf0 Rf1 Rf2 Rf3 Rf4 Rf5 Rf6 Oc0 Oc1 Oc2 Oc3 Oc4 Oc5 Oc6 Olt
    obtain ⟨B, G, N, R, O⟩ := HK.out
    clear HK
    have bsz := B.size
    have V3 : (zAo u6w (w.heap.size + 1) 0 [.int .i64 2, .int .i64 0, .int .i64 4, .int .i64 9, .int .i64 m.2.2.2.2.1, .slice none 0 0, .int .i64 1]).heap[w.heap.size + 1]? = some (.cells #[.int .i64 2, .int .i64 0, .int .i64 4, .int .i64 9, .int .i64 m.2.2.2.2.1, .slice none 0 0, .int .i64 1] 46 (0, 0)) := zGL R
    obtain ⟨r0, r1, r2, r3, r4, r5, r6⟩ := zAe V3
    have FS : (zAo u6w (w.heap.size + 1) 0 [.int .i64 2, .int .i64 0, .int .i64 4, .int .i64 9, .int .i64 m.2.2.2.2.1, .slice none 0 0, .int .i64 1]).heap.size = u6w.heap.size := zAj _ _ _
    have FQ : zHy S g w (c, p, at_, ph, h, t) (msg 2 0 4 9 m.2.2.2.2.1 [] 1) (.returned (zAM [.int .i64 2, .int .i64 0, .int .i64 4, .int .i64 9, .int .i64 m.2.2.2.2.1, .slice none 0 0, .int .i64 1])) (zAo u6w (w.heap.size + 1) 0 [.int .i64 2, .int .i64 0, .int .i64 4, .int .i64 9, .int .i64 m.2.2.2.2.1, .slice none 0 0, .int .i64 1]) := ⟨[.slice a0 c.1.length c0, .slice b0 c.2.length d0, .slice a1 p.length c1, .int .i64 at_, .int .i64 ph, .int .i64 h.1, .int .i64 h.2.1, .slice a4 h.2.2.length c4, .slice a5 t.length c5], [.int .i64 2, .int .i64 0, .int .i64 4, .int .i64 9, .int .i64 m.2.2.2.2.1, .slice none 0 0, .int .i64 1], rfl, zAn.own_mono (zAs (g := w.heap.size + 1) (o := 0) (vs := [.int .i64 2, .int .i64 0, .int .i64 4, .int .i64 9, .int .i64 m.2.2.2.2.1, .slice none 0 0, .int .i64 1]) (HO.out _ B) (fun q => by have := HSS.out.1 _ q; omega)) (fun k q => by rw [FS]; exact (.inl q)), zBy.own_mono (zAs (g := w.heap.size + 1) (o := 0) (vs := [.int .i64 2, .int .i64 0, .int .i64 4, .int .i64 9, .int .i64 m.2.2.2.2.1, .slice none 0 0, .int .i64 1]) (zBR (S := fun _ => False) (by constructor <;> decide) (by constructor <;> decide) (by constructor <;> decide) (by constructor <;> decide) him (by constructor <;> decide) (zBA _ _)) (fun q => q)) (fun k q => by rw [FS]; exact (q.elim)), zAk (g := w.heap.size + 1) (o := 0) (vs := [.int .i64 2, .int .i64 0, .int .i64 4, .int .i64 9, .int .i64 m.2.2.2.2.1, .slice none 0 0, .int .i64 1]) G (by omega), zBg (zII B) (by omega)⟩
    simp only [zA0, zA3, Nat.reduceAdd] at FQ r0 r1 r2 r3 r4 r5 r6
    rw [show zAM [.int .i64 2, .int .i64 0, .int .i64 4, .int .i64 9, .int .i64 m.2.2.2.2.1, .slice none 0 0, .int .i64 1] = .agg #[.int .i64 2, .int .i64 0, .int .i64 4, .int .i64 9, .int .i64 m.2.2.2.2.1, .slice none 0 0, .int .i64 1] from rfl] at FQ
    clear B G N R O V3 FS
    refine bodyPost_ret (v := .agg #[.int .i64 2, .int .i64 0, .int .i64 4, .int .i64 9, .int .i64 m.2.2.2.2.1, .slice none 0 0, .int .i64 1]) (by simp [results, Tryz.results58, go_sem, r0, r1, r2, r3, r4, r5, r6]) rfl ?_
    exact FQ
 ·have z1 : (ph == 1) = false := by simp [hp]
  clear hp hno
  rw [show zAM [.int .i64 m.1, .int .i64 m.2.1, .int .i64 m.2.2.1, .int .i64 m.2.2.2.1, .int .i64 m.2.2.2.2.1, .slice ma m.2.2.2.2.2.1.length mc, .int .i64 m.2.2.2.2.2.2] = .agg #[.int .i64 m.1, .int .i64 m.2.1, .int .i64 m.2.2.1, .int .i64 m.2.2.2.1, .int .i64 m.2.2.2.2.1, .slice ma m.2.2.2.2.2.1.length mc, .int .i64 m.2.2.2.2.2.2] from rfl]
  have B := Below.refl w.heap.size w
  go_enter Tryz.func58, Tryz.ntmps58
  go_upto_region 1 with fail
  generalize hu1w : w.alloc _ = u1w
  have N := boxH hu1w
  have bz := boxB hu1w
  have zN := boxL hu1w
  clear hu1w
  replace B := zAb B bz
  replace G := zAa bz G
  clear bz
  have zNa := Nat.le_of_eq zN
  have zNb := Nat.le_of_eq zN.symm
  clear zN
  generalize hu2w : u1w.alloc _ = u2w
  have R := boxH hu2w
  have bz := boxB hu2w
  have zR := boxL hu2w
  clear hu2w
  rw [show u1w.heap.size = w.heap.size + 1 from by omega] at R
  replace B := zAb B bz
  replace G := zAa bz G
  replace N := zAa bz N
  clear bz
  have zRa := Nat.le_of_eq zR
  have zRb := Nat.le_of_eq zR.symm
  clear zR
  obtain ⟨Gc0, Gc1, Gc2, Gc3, Gc4, Gc5, Gc6, Gc7, Gc8⟩ := zAc G
  have Glt := (Array.getElem?_eq_some_iff.1 G).1
  obtain ⟨Nc0, Nc1, Nc2, Nc3, Nc4, Nc5, Nc6⟩ := zAe N
  have Nlt := (Array.getElem?_eq_some_iff.1 N).1
  obtain ⟨Rc0, Rc1, Rc2, Rc3, Rc4, Rc5, Rc6⟩ := zAe R
  have Rlt := (Array.getElem?_eq_some_iff.1 R).1
  go_upto_region 2 with fail
  clear Gc0 Gc1 Gc2 Gc3 Gc4 Gc5 Gc6 Gc7 Gc8 Glt Nc0 Nc1 Nc2 Nc3 Nc4 Nc5 Nc6 Nlt Rc0 Rc1 Rc2 Rc3 Rc4 Rc5 Rc6 Rlt
  generalize hu3w : u2w.alloc _ = u3w
  have O := boxH hu3w
  have bz := boxB hu3w
  have zO := boxL hu3w
  clear hu3w
  replace B := zAb B bz
  replace G := zAa bz G
  replace N := zAa bz N
  replace R := zAa bz R
  clear bz
  have zOa := Nat.le_of_eq zO
  have zOb := Nat.le_of_eq zO.symm
  clear zO
  have HATc : Hid (∀ n' : Cls (fun wx => Below u3w.heap.size u3w wx), _) := fun n' => HAT.out n'.w (zAb B n'.h)
  obtain ⟨Gc0, Gc1, Gc2, Gc3, Gc4, Gc5, Gc6, Gc7, Gc8⟩ := zAc G
  have Glt := (Array.getElem?_eq_some_iff.1 G).1
  obtain ⟨Nc0, Nc1, Nc2, Nc3, Nc4, Nc5, Nc6⟩ := zAe N
  have Nlt := (Array.getElem?_eq_some_iff.1 N).1
  obtain ⟨Rc0, Rc1, Rc2, Rc3, Rc4, Rc5, Rc6⟩ := zAe R
  have Rlt := (Array.getElem?_eq_some_iff.1 R).1
  obtain ⟨Oc0, Oc1, Oc2, Oc3, Oc4, Oc5, Oc6⟩ := zAe O
  have Olt := (Array.getElem?_eq_some_iff.1 O).1
  go_upto_region 2 with fail
  clear Gc0 Gc1 Gc2 Gc3 Gc4 Gc5 Gc6 Gc7 Gc8 Glt Nc0 Nc1 Nc2 Nc3 Nc4 Nc5 Nc6 Nlt Rc0 Rc1 Rc2 Rc3 Rc4 Rc5 Rc6 Rlt Oc0 Oc1 Oc2 Oc3 Oc4 Oc5 Oc6 Olt
  obtain ⟨Gc0, Gc1, Gc2, Gc3, Gc4, Gc5, Gc6, Gc7, Gc8⟩ := zAc G
  have Gk0 : ∀ n' : Cls (fun wx => Below u3w.heap.size u3w wx), n'.w.cell? ⟨g, 0, none⟩ = some (.slice a0 c.1.length c0) := fun n' => zAd n'.h Gc0 (zAi Gc0)
  have Gk1 : ∀ n' : Cls (fun wx => Below u3w.heap.size u3w wx), n'.w.cell? ⟨g, 1, none⟩ = some (.slice b0 c.2.length d0) := fun n' => zAd n'.h Gc1 (zAi Gc1)
  have Gk2 : ∀ n' : Cls (fun wx => Below u3w.heap.size u3w wx), n'.w.cell? ⟨g, 2, none⟩ = some (.slice a1 p.length c1) := fun n' => zAd n'.h Gc2 (zAi Gc2)
  have Gk3 : ∀ n' : Cls (fun wx => Below u3w.heap.size u3w wx), n'.w.cell? ⟨g, 3, none⟩ = some (.int .i64 at_) := fun n' => zAd n'.h Gc3 (zAi Gc3)
  have Gk4 : ∀ n' : Cls (fun wx => Below u3w.heap.size u3w wx), n'.w.cell? ⟨g, 4, none⟩ = some (.int .i64 ph) := fun n' => zAd n'.h Gc4 (zAi Gc4)
  have Gk5 : ∀ n' : Cls (fun wx => Below u3w.heap.size u3w wx), n'.w.cell? ⟨g, 5, none⟩ = some (.int .i64 h.1) := fun n' => zAd n'.h Gc5 (zAi Gc5)
  have Gk6 : ∀ n' : Cls (fun wx => Below u3w.heap.size u3w wx), n'.w.cell? ⟨g, 6, none⟩ = some (.int .i64 h.2.1) := fun n' => zAd n'.h Gc6 (zAi Gc6)
  have Gk7 : ∀ n' : Cls (fun wx => Below u3w.heap.size u3w wx), n'.w.cell? ⟨g, 7, none⟩ = some (.slice a4 h.2.2.length c4) := fun n' => zAd n'.h Gc7 (zAi Gc7)
  have Gk8 : ∀ n' : Cls (fun wx => Below u3w.heap.size u3w wx), n'.w.cell? ⟨g, 8, none⟩ = some (.slice a5 t.length c5) := fun n' => zAd n'.h Gc8 (zAi Gc8)
  clear Gc0 Gc1 Gc2 Gc3 Gc4 Gc5 Gc6 Gc7 Gc8
  obtain ⟨Nc0, Nc1, Nc2, Nc3, Nc4, Nc5, Nc6⟩ := zAe N
  have Nk0 : ∀ n' : Cls (fun wx => Below u3w.heap.size u3w wx), n'.w.cell? ⟨w.heap.size, 0, none⟩ = some (.int .i64 m.1) := fun n' => zAd n'.h Nc0 (zAi Nc0)
  have Nk1 : ∀ n' : Cls (fun wx => Below u3w.heap.size u3w wx), n'.w.cell? ⟨w.heap.size, 1, none⟩ = some (.int .i64 m.2.1) := fun n' => zAd n'.h Nc1 (zAi Nc1)
  have Nk2 : ∀ n' : Cls (fun wx => Below u3w.heap.size u3w wx), n'.w.cell? ⟨w.heap.size, 2, none⟩ = some (.int .i64 m.2.2.1) := fun n' => zAd n'.h Nc2 (zAi Nc2)
  have Nk3 : ∀ n' : Cls (fun wx => Below u3w.heap.size u3w wx), n'.w.cell? ⟨w.heap.size, 3, none⟩ = some (.int .i64 m.2.2.2.1) := fun n' => zAd n'.h Nc3 (zAi Nc3)
  have Nk4 : ∀ n' : Cls (fun wx => Below u3w.heap.size u3w wx), n'.w.cell? ⟨w.heap.size, 4, none⟩ = some (.int .i64 m.2.2.2.2.1) := fun n' => zAd n'.h Nc4 (zAi Nc4)
  have Nk5 : ∀ n' : Cls (fun wx => Below u3w.heap.size u3w wx), n'.w.cell? ⟨w.heap.size, 5, none⟩ = some (.slice ma m.2.2.2.2.2.1.length mc) := fun n' => zAd n'.h Nc5 (zAi Nc5)
  have Nk6 : ∀ n' : Cls (fun wx => Below u3w.heap.size u3w wx), n'.w.cell? ⟨w.heap.size, 6, none⟩ = some (.int .i64 m.2.2.2.2.2.2) := fun n' => zAd n'.h Nc6 (zAi Nc6)
  clear Nc0 Nc1 Nc2 Nc3 Nc4 Nc5 Nc6
  have HFX : Hid _ := And.intro B (And.intro G (And.intro N (And.intro R (O))))
  clear B G N R O
  refine zA8 (fun wx => Below u3w.heap.size u3w wx) (by kernel_rfl) (by kernel_rfl) ((Below.refl _ u3w).drew) ?_
  intro hne
  repeat (quiet_step (first | (go_at_call 54; exact zAz (HATc.out _) (fun w' hc bb => zAb hc bb))))
  refine wpQuiet_nil ?_
  intro u4w bq
  clear Gk0 Gk1 Gk2 Gk3 Gk4 Gk5 Gk6 Gk7 Gk8 Nk0 Nk1 Nk2 Nk3 Nk4 Nk5 Nk6 hne
  obtain ⟨B, G, N, R, O⟩ := HFX.out
  clear HFX
  have tu4w : u3w.heap.size ≤ u4w.heap.size := bq.size
  replace B := zAb B bq
  replace G := zAa bq G
  replace N := zAa bq N
  replace R := zAa bq R
  replace O := zAa bq O
  clear bq
  clear HATc HAT
  obtain ⟨Gc0, Gc1, Gc2, Gc3, Gc4, Gc5, Gc6, Gc7, Gc8⟩ := zAc G
  have Glt := (Array.getElem?_eq_some_iff.1 G).1
  obtain ⟨Nc0, Nc1, Nc2, Nc3, Nc4, Nc5, Nc6⟩ := zAe N
  have Nlt := (Array.getElem?_eq_some_iff.1 N).1
  obtain ⟨Rc0, Rc1, Rc2, Rc3, Rc4, Rc5, Rc6⟩ := zAe R
  have Rlt := (Array.getElem?_eq_some_iff.1 R).1
  obtain ⟨Oc0, Oc1, Oc2, Oc3, Oc4, Oc5, Oc6⟩ := zAe O
  have Olt := (Array.getElem?_eq_some_iff.1 O).1
  go_upto_region 13 with fail
  clear Gc0 Gc1 Gc2 Gc3 Gc4 Gc5 Gc6 Gc7 Gc8 Glt Nc0 Nc1 Nc2 Nc3 Nc4 Nc5 Nc6 Nlt Rc0 Rc1 Rc2 Rc3 Rc4 Rc5 Rc6 Rlt Oc0 Oc1 Oc2 Oc3 Oc4 Oc5 Oc6 Olt
  go_cut [83] (fun q wx => q = .bool false ∧ Below u4w.heap.size u4w wx)
  case first =>
   obtain ⟨Gc0, Gc1, Gc2, Gc3, Gc4, Gc5, Gc6, Gc7, Gc8⟩ := zAc G
   have Glt := (Array.getElem?_eq_some_iff.1 G).1
   obtain ⟨Nc0, Nc1, Nc2, Nc3, Nc4, Nc5, Nc6⟩ := zAe N
   have Nlt := (Array.getElem?_eq_some_iff.1 N).1
   obtain ⟨Rc0, Rc1, Rc2, Rc3, Rc4, Rc5, Rc6⟩ := zAe R
   have Rlt := (Array.getElem?_eq_some_iff.1 R).1
   obtain ⟨Oc0, Oc1, Oc2, Oc3, Oc4, Oc5, Oc6⟩ := zAe O
   have Olt := (Array.getElem?_eq_some_iff.1 O).1
   clear B G N R O
   go_quiet (fail)
   go_wp2_with fail
   go_meet
   exact ⟨rfl, zBt (Below.refl _ _) _⟩
  case rest =>
   obtain ⟨rfl, bq⟩ := hcut
   generalize wc = u5w at bq ⊢
   have tu5w : u4w.heap.size ≤ u5w.heap.size := bq.size
   replace B := zAb B bq
   replace G := zAa bq G
   replace N := zAa bq N
   replace R := zAa bq R
   replace O := zAa bq O
   clear bq
   obtain ⟨Gc0, Gc1, Gc2, Gc3, Gc4, Gc5, Gc6, Gc7, Gc8⟩ := zAc G
   have Glt := (Array.getElem?_eq_some_iff.1 G).1
   obtain ⟨Nc0, Nc1, Nc2, Nc3, Nc4, Nc5, Nc6⟩ := zAe N
   have Nlt := (Array.getElem?_eq_some_iff.1 N).1
   obtain ⟨Rc0, Rc1, Rc2, Rc3, Rc4, Rc5, Rc6⟩ := zAe R
   have Rlt := (Array.getElem?_eq_some_iff.1 R).1
   obtain ⟨Oc0, Oc1, Oc2, Oc3, Oc4, Oc5, Oc6⟩ := zAe O
   have Olt := (Array.getElem?_eq_some_iff.1 O).1
   obtain ⟨Of0, Of1, Of2, Of3, Of4, Of5, Of6⟩ := zB8 O
   go_upto_region 21 with fail
   clear Gc0 Gc1 Gc2 Gc3 Gc4 Gc5 Gc6 Gc7 Gc8 Glt Nc0 Nc1 Nc2 Nc3 Nc4 Nc5 Nc6 Nlt Rc0 Rc1 Rc2 Rc3 Rc4 Rc5 Rc6 Rlt Oc0 Oc1 Oc2 Oc3 Oc4 Oc5 Oc6 Olt Of0 Of1 Of2 Of3 Of4 Of5 Of6
   rw [show (u5w.setCell ⟨u2w.heap.size, 6, none⟩ (.int .i64 1)) = (zAo u5w (u2w.heap.size) 6 [.int .i64 1]) from rfl]
   replace G := zAk (g := u2w.heap.size) (o := 6) (vs := [.int .i64 1]) G (by omega)
   replace N := zAk (g := u2w.heap.size) (o := 6) (vs := [.int .i64 1]) N (by omega)
   replace R := zAk (g := u2w.heap.size) (o := 6) (vs := [.int .i64 1]) R (by omega)
   replace B := zAv (g := u2w.heap.size) (o := 6) (vs := [.int .i64 1]) B (by omega)
   replace O : (zAo u5w (u2w.heap.size) 6 [.int .i64 1]).heap[u2w.heap.size]? = some (.cells #[.int .i64 2, .int .i64 0, .int .i64 4, .int .i64 9, .int .i64 m.2.2.2.2.1, .slice none 0 0, .int .i64 1] 46 (0, 0)) := zAC _ _ O
   have tu6w := Nat.le_of_eq (zAj (g := u2w.heap.size) [.int .i64 1] 6 u5w)
   have qu6w := Nat.le_of_eq (zAj (g := u2w.heap.size) [.int .i64 1] 6 u5w).symm
   generalize (zAo u5w (u2w.heap.size) 6 [.int .i64 1]) = u6w at B G N R O tu6w qu6w ⊢
   obtain ⟨Gc0, Gc1, Gc2, Gc3, Gc4, Gc5, Gc6, Gc7, Gc8⟩ := zAc G
   have Glt := (Array.getElem?_eq_some_iff.1 G).1
   obtain ⟨Nc0, Nc1, Nc2, Nc3, Nc4, Nc5, Nc6⟩ := zAe N
   have Nlt := (Array.getElem?_eq_some_iff.1 N).1
   obtain ⟨Rc0, Rc1, Rc2, Rc3, Rc4, Rc5, Rc6⟩ := zAe R
   have Rlt := (Array.getElem?_eq_some_iff.1 R).1
   obtain ⟨Rf0, Rf1, Rf2, Rf3, Rf4, Rf5, Rf6⟩ := zB8 R
   obtain ⟨Oc0, Oc1, Oc2, Oc3, Oc4, Oc5, Oc6⟩ := zAe O
   have Olt := (Array.getElem?_eq_some_iff.1 O).1
   have ne1 : ¬ (u2w.heap.size = w.heap.size + 1) := by omega
   have ne2 : ¬ (w.heap.size + 1 = u2w.heap.size) := by omega
   have HK : Hid _ := And.intro B (And.intro G (And.intro N (And.intro R (O))))
   clear B G N R O
   go_wp2
   clear ne1 ne2
   clear Gc0 Gc1 Gc2 Gc3 Gc4 Gc5 Gc6 Gc7 Gc8 Glt Nc0 Nc1 Nc2 Nc3 Nc4 Nc5 Nc6 Nlt Rc0 Rc1 Rc2 Rc3 Rc4 Rc5 Rc6 Rlt Rf0 Rf1 Rf2 Rf3 Rf4 Rf5 Rf6 Oc0 Oc1 Oc2 Oc3 Oc4 Oc5 Oc6 Olt
   obtain ⟨B, G, N, R, O⟩ := HK.out
   clear HK
   have bsz := B.size
   have V3 : (zAo u6w (w.heap.size + 1) 0 [.int .i64 2, .int .i64 0, .int .i64 4, .int .i64 9, .int .i64 m.2.2.2.2.1, .slice none 0 0, .int .i64 1]).heap[w.heap.size + 1]? = some (.cells #[.int .i64 2, .int .i64 0, .int .i64 4, .int .i64 9, .int .i64 m.2.2.2.2.1, .slice none 0 0, .int .i64 1] 46 (0, 0)) := zGL R
   obtain ⟨r0, r1, r2, r3, r4, r5, r6⟩ := zAe V3
   have FS : (zAo u6w (w.heap.size + 1) 0 [.int .i64 2, .int .i64 0, .int .i64 4, .int .i64 9, .int .i64 m.2.2.2.2.1, .slice none 0 0, .int .i64 1]).heap.size = u6w.heap.size := zAj _ _ _
   have FQ : zHy S g w (c, p, at_, ph, h, t) (msg 2 0 4 9 m.2.2.2.2.1 [] 1) (.returned (zAM [.int .i64 2, .int .i64 0, .int .i64 4, .int .i64 9, .int .i64 m.2.2.2.2.1, .slice none 0 0, .int .i64 1])) (zAo u6w (w.heap.size + 1) 0 [.int .i64 2, .int .i64 0, .int .i64 4, .int .i64 9, .int .i64 m.2.2.2.2.1, .slice none 0 0, .int .i64 1]) := ⟨[.slice a0 c.1.length c0, .slice b0 c.2.length d0, .slice a1 p.length c1, .int .i64 at_, .int .i64 ph, .int .i64 h.1, .int .i64 h.2.1, .slice a4 h.2.2.length c4, .slice a5 t.length c5], [.int .i64 2, .int .i64 0, .int .i64 4, .int .i64 9, .int .i64 m.2.2.2.2.1, .slice none 0 0, .int .i64 1], rfl, zAn.own_mono (zAs (g := w.heap.size + 1) (o := 0) (vs := [.int .i64 2, .int .i64 0, .int .i64 4, .int .i64 9, .int .i64 m.2.2.2.2.1, .slice none 0 0, .int .i64 1]) (HO.out _ B) (fun q => by have := HSS.out.1 _ q; omega)) (fun k q => by rw [FS]; exact (.inl q)), zBy.own_mono (zAs (g := w.heap.size + 1) (o := 0) (vs := [.int .i64 2, .int .i64 0, .int .i64 4, .int .i64 9, .int .i64 m.2.2.2.2.1, .slice none 0 0, .int .i64 1]) (zBR (S := fun _ => False) (by constructor <;> decide) (by constructor <;> decide) (by constructor <;> decide) (by constructor <;> decide) him (by constructor <;> decide) (zBA _ _)) (fun q => q)) (fun k q => by rw [FS]; exact (q.elim)), zAk (g := w.heap.size + 1) (o := 0) (vs := [.int .i64 2, .int .i64 0, .int .i64 4, .int .i64 9, .int .i64 m.2.2.2.2.1, .slice none 0 0, .int .i64 1]) G (by omega), zBg (zII B) (by omega)⟩
   simp only [zA0, zA3, Nat.reduceAdd] at FQ r0 r1 r2 r3 r4 r5 r6
   rw [show zAM [.int .i64 2, .int .i64 0, .int .i64 4, .int .i64 9, .int .i64 m.2.2.2.2.1, .slice none 0 0, .int .i64 1] = .agg #[.int .i64 2, .int .i64 0, .int .i64 4, .int .i64 9, .int .i64 m.2.2.2.2.1, .slice none 0 0, .int .i64 1] from rfl] at FQ
   clear B G N R O V3 FS
   refine bodyPost_ret (v := .agg #[.int .i64 2, .int .i64 0, .int .i64 4, .int .i64 9, .int .i64 m.2.2.2.2.1, .slice none 0 0, .int .i64 1]) (by simp [results, Tryz.results58, go_sem, r0, r1, r2, r3, r4, r5, r6]) rfl ?_
   exact FQ
end Go.Proofs.YtoihjejenjcokaaGreatDoor
