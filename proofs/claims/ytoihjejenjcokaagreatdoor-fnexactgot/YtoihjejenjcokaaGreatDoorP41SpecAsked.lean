import Derived.Test.YtoihjejenjcokaaGreatDoorP00Box
import Derived.Test.YtoihjejenjcokaaGreatDoorP35SpecAskH
import Derived.Test.YtoihjejenjcokaaGreatDoorP38SpecAskI
import Derived.Test.YtoihjejenjcokaaGreatDoorP39SpecAskJ
import Derived.Test.YtoihjejenjcokaaGreatDoorP40SpecAskK
import Derived.Test.YtoihjejenjcokaaGreatDoorP34SpecGetN
namespace Go.Proofs.YtoihjejenjcokaaGreatDoor
set_option maxHeartbeats 8000000
set_option maxRecDepth 20000
open Go.ChangeShapes Go.WideShapes Go.ChangeAt Go.RowKit
set_option linter.unusedVariables false
theorem zHM (S : zAX) (g : Nat) (cs ns : List Value) (x : zAE) (m : zB5) (w : World) (ho : zAn.own w S cs x) (hS : ∀ k, S k → k < w.heap.size) (hg : ¬ S g) (hbox : w.heap[g]? = some (.cells cs.toArray 41 (0, 0))) (hm : zBy.rd w ns m) (hk : zAZ x = true) (hkd : zBm m = 6 ∨ zBm m = 7) :
    Calls Tryz.prog 58 #[.pointer (some ⟨g, 0, none⟩), zAM ns] w fun e w' => zHy S g w (ofS (zAI (toS x) 0 m).1) (zAI (toS x) 0 m).2 e w' := by
 have hP := zB4 hk
 cases hat : atC x.1 (zAt m) with
 | none =>
  by_cases hc : x.2.2.2.1 = 1 ∧ x.2.2.2.2.1.1 = zAt m ∧ x.2.2.2.2.1.2.1 ≠ 0
  ·obtain ⟨h1, h2, h3⟩ := hc
   obtain ⟨-, g1, -⟩ := zCE hP h1
   have hst : 1 ≤ x.2.2.2.2.1.2.1 := by
    rcases g1 with q | q
    ·exact absurd q.1 h3
    ·have := (zB0 q).2.1.1
     exact this
   by_cases hs : 2 ≤ x.2.2.2.2.1.2.1
   ·have e : zAI (toS x) 0 m = (toS (x.1, x.2.1, x.2.2.1, x.2.2.2.1, (m.2.2.2.2.1, 0, []), x.2.2.2.2.2), msg 2 0 4 8 m.2.2.2.2.1 x.2.2.2.2.1.2.2 1) := by
      unfold zAI
      dsimp only
      rw [hat]
      dsimp only
      rw [if_pos ⟨h1, h2, h3⟩, if_pos hs]
      rfl
    rw [e]
    exact zH1 S g cs ns x m w ho hS hg hbox hm hk hat h1 h2 hs
   ·have hs1 : x.2.2.2.2.1.2.1 = 1 := by omega
    by_cases h6 : zBm m = 6
    ·have e : zAI (toS x) 0 m = (toS x, msg 2 0 4 9 m.2.2.2.2.1 [] 0) := by
       unfold zAI
       dsimp only
       rw [hat]
       dsimp only
       rw [if_pos ⟨h1, h2, h3⟩, if_neg hs, if_pos h6]
       rfl
     rw [e]
     exact zHz S g cs ns x m w ho hS hg hbox hm hk hat h1 h2 hs1 h6
    ·have e : zAI (toS x) 0 m = (toS (x.1, x.2.1, x.2.2.1, x.2.2.2.1, (m.2.2.2.2.1, 0, []), x.2.2.2.2.2), msg 2 0 4 9 m.2.2.2.2.1 [] 1) := by
       unfold zAI
       dsimp only
       rw [hat]
       dsimp only
       rw [if_pos ⟨h1, h2, h3⟩, if_neg hs, if_neg h6]
       rfl
     rw [e]
     exact zH0 S g cs ns x m w ho hS hg hbox hm hk hat h1 h2 hs1 h6
  ·have e : zAI (toS x) 0 m = (toS x, msg 2 0 4 9 m.2.2.2.2.1 [] 1) := by
     unfold zAI
     dsimp only
     rw [hat]
     dsimp only
     rw [if_neg hc]
     rfl
   rw [e]
   exact zIF S g cs ns x m w ho hS hg hbox hm hk hat hc
 | some j =>
  by_cases h7 : zBm m = 7
  ·by_cases hs : 2 ≤ (zAD x.1 (zAt m)).2.1
   ·have e : zAI (toS x) 0 m = (toS (zDZ x.1 (zAt m) zAA, x.2), msg 2 0 4 8 m.2.2.2.2.1 (zAD x.1 (zAt m)).2.2 1) := by
      unfold zAI
      dsimp only
      rw [hat]
      dsimp only
      rw [if_pos h7, if_pos hs, if_pos hs, zGY]
      rfl
    rw [e]
    exact zJ9 S g cs ns x m w ho hS hg hbox hm hk j hat hs h7
   ·have e : zAI (toS x) 0 m = (toS (zDZ x.1 (zAt m) zAA, x.2), msg 2 0 4 9 m.2.2.2.2.1 [] 1) := by
      unfold zAI
      dsimp only
      rw [hat]
      dsimp only
      rw [if_pos h7, if_neg hs, if_neg hs, zGY]
      rfl
    rw [e]
    exact zJ8 S g cs ns x m w ho hS hg hbox hm hk j hat hs h7
  ·by_cases hs : 2 ≤ (zAD x.1 (zAt m)).2.1
   ·have e : zAI (toS x) 0 m = (toS (zDZ x.1 (zAt m) ((zAD x.1 (zAt m)).1, 1, (zAD x.1 (zAt m)).2.2), x.2), msg 2 0 4 8 m.2.2.2.2.1 (zAD x.1 (zAt m)).2.2 0) := by
      unfold zAI
      dsimp only
      rw [hat]
      dsimp only
      rw [if_neg h7, if_pos hs, if_pos hs, if_pos hs]
      rfl
    rw [e]
    exact zJ7 S g cs ns x m w ho hS hg hbox hm hk j hat hs h7
   ·have e : zAI (toS x) 0 m = (toS (x.1, x.2), msg 2 0 4 9 m.2.2.2.2.1 [] 0) := by
      unfold zAI
      dsimp only
      rw [hat]
      dsimp only
      rw [if_neg h7, if_neg hs, if_neg hs, if_neg hs]
      rfl
    rw [e]
    exact zJ6 S g cs ns x m w ho hS hg hbox hm hk j hat hs h7
theorem zLv {w : World} {S : zAX} {am : zB5} {na : Option Addr} {nc : Nat} {id : Int} (h : zBy.own w S [.int .i64 am.1, .int .i64 am.2.1, .int .i64 am.2.2.1, .int .i64 am.2.2.2.1, .int .i64 am.2.2.2.2.1, .slice na am.2.2.2.2.2.1.length nc, .int .i64 am.2.2.2.2.2.2] am) (hi : zBk id) : zBy.own w S [.int .i64 am.1, .int .i64 id, .int .i64 am.2.2.1, .int .i64 am.2.2.2.1, .int .i64 am.2.2.2.2.1, .slice na am.2.2.2.2.2.1.length nc, .int .i64 am.2.2.2.2.2.2] (am.1, id, am.2.2) := by
 obtain ⟨v, e, i0, i1, i2, i3, i4, i6, o⟩ := zKu h
 simp only [List.cons.injEq, true_and, and_true] at e
 obtain rfl := e
 exact zBR i0 hi i2 i3 i4 i6 o
theorem zLw (c : CoreS) (id : Int) (m : zB5) : zAI c id m = ((zAI c 0 m).1, ((zAI c 0 m).2.1, id, (zAI c 0 m).2.2.2)) := by
 unfold zAI
 dsimp only
 cases atC c.cache (zAt m) with
 | none =>
  dsimp only
  split
  ·split
   ·rfl
   ·split <;> rfl
  ·rfl
 | some j =>
  dsimp only
  split <;> rfl
theorem zKG (S : zAX) (g : Nat) (cs ns : List Value) (x : zAE) (id : Int) (m : zB5) (w : World) (ho : zAn.own w S cs x) (hS : ∀ k, S k → k < w.heap.size) (hg : ¬ S g) (hbox : w.heap[g]? = some (.cells cs.toArray 41 (0, 0))) (hm : zBy.rd w ns m) (hk : zAZ x = true) (hid : zBk id) (hkd : m.2.2.2.1 = 6) (hb : zAQ m.2.2.2.2.1 0 15 = true) :
    Calls Tryz.prog 25 #[.pointer (some ⟨g, 0, none⟩), .int .i64 id, zAM ns] w fun e w' => GtP S g w (ofS (zAI (toS x) 0 m).1) [((zAI (toS x) 0 m).2.1, id, (zAI (toS x) 0 m).2.2.2)] 1 e w' := by
 have HAK : Hid (∀ W, Below w.heap.size w W → Calls Tryz.prog 58 #[.pointer (some ⟨g, 0, none⟩), zAM ns] W fun e w' => zHy S g W (ofS (zAI (toS x) 0 m).1) (zAI (toS x) 0 m).2 e w') := fun W hb => zHM S g cs ns x m W (zAn.own_keep ho (zAh hb)) (fun j z => Nat.lt_of_lt_of_le (hS j z) hb.size) hg (zAa hb hbox) (zAN hm hb) hk (.inl hkd)
 obtain ⟨y9, hy9⟩ : ∃ y9, y9 = ofS (zAI (toS x) 0 m).1 := ⟨_, rfl⟩
 obtain ⟨am, ham⟩ : ∃ am, am = (zAI (toS x) 0 m).2 := ⟨_, rfl⟩
 rw [← hy9, ← ham] at HAK
 rw [← hy9, ← ham]
 clear hy9 ham
 obtain ⟨ma, mc, rfl, im0, im1, im2, im3, im4, im6, -, -, -⟩ := zBB hm
 obtain ⟨v0, v1, v2, v5, v6, v7, v8, S0, S1, S4, S5, rfl, i2, i3, o0, o1, o4, o5, sb0, sb1, sb4, sb5, d01, d04, d05, d14, d15, d45⟩ := zBd ho
 have r0 := zAB.own_rd o0
 obtain ⟨a0, c0, b0, d0, e0, -⟩ := zAH r0
 simp only [List.cons.injEq, and_true] at e0
 obtain ⟨rfl, rfl⟩ := e0
 obtain ⟨a1, c1, e1, -⟩ := zBX.own_rd o1
 simp only [List.cons.injEq, and_true] at e1
 obtain rfl := e1
 have r4 := zAS.own_rd o4
 obtain ⟨a4, c4, e4, ih1, ih2, -, -, q4⟩ := zAL r4
 simp only [List.cons.injEq, and_true] at e4
 obtain ⟨rfl, rfl, rfl⟩ := e4
 obtain ⟨a5, c5, e5, -⟩ := zA5.own_rd o5
 simp only [List.cons.injEq, and_true] at e5
 obtain rfl := e5
 have HO : Hid (∀ W, Below w.heap.size w W → zAn.own W S [.slice a0 x.1.1.length c0, .slice b0 x.1.2.length d0, .slice a1 x.2.1.length c1, .int .i64 x.2.2.1, .int .i64 x.2.2.2.1, .int .i64 x.2.2.2.2.1.1, .int .i64 x.2.2.2.2.1.2.1, .slice a4 x.2.2.2.2.1.2.2.length c4, .slice a5 x.2.2.2.2.2.length c5] x) := fun W hb => zAn.own_keep ho (zAh hb)
 have HSS : Hid _ := And.intro hS hg
 have G : w.heap[g]? = some (.cells #[.slice a0 x.1.1.length c0, .slice b0 x.1.2.length d0, .slice a1 x.2.1.length c1, .int .i64 x.2.2.1, .int .i64 x.2.2.2.1, .int .i64 x.2.2.2.2.1.1, .int .i64 x.2.2.2.2.1.2.1, .slice a4 x.2.2.2.2.1.2.2.length c4, .slice a5 x.2.2.2.2.2.length c5] 41 (0, 0)) := hbox
 have gl := (Array.getElem?_eq_some_iff.1 G).1
 rw [show zAM [.int .i64 m.1, .int .i64 m.2.1, .int .i64 m.2.2.1, .int .i64 m.2.2.2.1, .int .i64 m.2.2.2.2.1, .slice ma m.2.2.2.2.2.1.length mc, .int .i64 m.2.2.2.2.2.2] = .agg #[.int .i64 m.1, .int .i64 m.2.1, .int .i64 m.2.2.1, .int .i64 m.2.2.2.1, .int .i64 m.2.2.2.2.1, .slice ma m.2.2.2.2.2.1.length mc, .int .i64 m.2.2.2.2.2.2] from rfl] at HAK
 have HIN : Hid (∀ W, Calls Tryz.prog 23 #[.int .i64 m.2.2.2.2.1, .int .i64 0, .int .i64 15] W fun e w' => e = .returned (.bool true) ∧ Below W.heap.size W w') := fun W => (zBa m.2.2.2.2.1 0 15 W).mono fun e w' ⟨q, r⟩ => ⟨by rw [q, hb], zFj r⟩
 obtain ⟨c, p, at_, ph, h, t⟩ := x
 simp only at *
 clear ho hS hg r0 r4 q4 o0 o1 o4 o5 sb0 sb1 sb4 sb5 d01 d04 d05 d14 d15 d45 i2 i3 ih1 ih2 hm hbox im0 im1 im2 im3 im4 im6 hb hk HO
 have z6 : (m.2.2.2.1 == 6) = true := by simp [hkd]
 clear hkd
 rw [show zAM [.int .i64 m.1, .int .i64 m.2.1, .int .i64 m.2.2.1, .int .i64 m.2.2.2.1, .int .i64 m.2.2.2.2.1, .slice ma m.2.2.2.2.2.1.length mc, .int .i64 m.2.2.2.2.2.2] = .agg #[.int .i64 m.1, .int .i64 m.2.1, .int .i64 m.2.2.1, .int .i64 m.2.2.2.1, .int .i64 m.2.2.2.2.1, .slice ma m.2.2.2.2.2.1.length mc, .int .i64 m.2.2.2.2.2.2] from rfl]
 have B := Below.refl w.heap.size w
 go_enter Tryz.func25, Tryz.ntmps25
 go_upto_region 1 with fail
 generalize hu1w : w.alloc _ = u1w
 have N := boxH hu1w
 have bz := boxB hu1w
 have zN := boxL hu1w
 clear hu1w
 replace B := zAb B bz
 replace G := zAa bz G
 clear bz
 have zNa := Nat.le_of_eq zN
 have zNb := Nat.le_of_eq zN.symm
 clear zN
 obtain ⟨Gc0, Gc1, Gc2, Gc3, Gc4, Gc5, Gc6, Gc7, Gc8⟩ := zAc G
 have Glt := (Array.getElem?_eq_some_iff.1 G).1
 obtain ⟨Nc0, Nc1, Nc2, Nc3, Nc4, Nc5, Nc6⟩ := zAe N
 have Nlt := (Array.getElem?_eq_some_iff.1 N).1
 go_upto_region 2 with fail
 clear Gc0 Gc1 Gc2 Gc3 Gc4 Gc5 Gc6 Gc7 Gc8 Glt Nc0 Nc1 Nc2 Nc3 Nc4 Nc5 Nc6 Nlt
 have Zo : zCp zBp (w.heap.size + 1) (w.heap.size + 1 + 1) (u1w.alloc (.cells #[] 46)) [.slice (some ⟨w.heap.size + 1, 0, none⟩) 0 0] [] := by
  have q := zC3 (e := 46) (R := zBy) u1w
  rw [show u1w.heap.size = w.heap.size + 1 from by omega] at q
  exact And.intro (zBp.own_mono q (fun k z => by have z2 : k = w.heap.size + 1 := z; exact ⟨by omega, by omega⟩)) (by rw [zAp]; omega)
 have bz := zAf u1w (.cells #[] 46)
 have zz := zAp u1w (.cells #[] 46)
 replace B := zAb B bz
 replace G := zAa bz G
 replace N := zAa bz N
 clear bz
 generalize u1w.alloc (.cells #[] 46) = u2w at B G N Zo zz ⊢
 have zza := Nat.le_of_eq zz
 have zzb := Nat.le_of_eq zz.symm
 clear zz
 obtain ⟨Gc0, Gc1, Gc2, Gc3, Gc4, Gc5, Gc6, Gc7, Gc8⟩ := zAc G
 have Glt := (Array.getElem?_eq_some_iff.1 G).1
 obtain ⟨Nc0, Nc1, Nc2, Nc3, Nc4, Nc5, Nc6⟩ := zAe N
 have Nlt := (Array.getElem?_eq_some_iff.1 N).1
 go_wp2_with fail
 clear Gc0 Gc1 Gc2 Gc3 Gc4 Gc5 Gc6 Gc7 Gc8 Glt Nc0 Nc1 Nc2 Nc3 Nc4 Nc5 Nc6 Nlt
 refine (HIN.out _).mono ?_
 rintro e u3w ⟨rfl, bq⟩
 have tu3w : u2w.heap.size ≤ u3w.heap.size := bq.size
 replace B := zAb B bq
 replace G := zAa bq G
 replace N := zAa bq N
 replace Zo := zA6 Zo bq
 clear bq
 obtain ⟨Gc0, Gc1, Gc2, Gc3, Gc4, Gc5, Gc6, Gc7, Gc8⟩ := zAc G
 have Glt := (Array.getElem?_eq_some_iff.1 G).1
 obtain ⟨Nc0, Nc1, Nc2, Nc3, Nc4, Nc5, Nc6⟩ := zAe N
 have Nlt := (Array.getElem?_eq_some_iff.1 N).1
 go_wp2_with fail
 clear Gc0 Gc1 Gc2 Gc3 Gc4 Gc5 Gc6 Gc7 Gc8 Glt Nc0 Nc1 Nc2 Nc3 Nc4 Nc5 Nc6 Nlt
 refine (HAK.out _ B).mono ?_
 rintro e wd ⟨ds, ms, rfl, co, mo, gr, ch⟩
 obtain ⟨na, nc, rfl, in0, in1, in2, in3, in4, in6, -, -, -⟩ := zBB (zBy.own_rd mo)
 rw [show zAM [.int .i64 am.1, .int .i64 am.2.1, .int .i64 am.2.2.1, .int .i64 am.2.2.2.1, .int .i64 am.2.2.2.2.1, .slice na am.2.2.2.2.2.1.length nc, .int .i64 am.2.2.2.2.2.2] = .agg #[.int .i64 am.1, .int .i64 am.2.1, .int .i64 am.2.2.1, .int .i64 am.2.2.2.1, .int .i64 am.2.2.2.2.1, .slice na am.2.2.2.2.2.1.length nc, .int .i64 am.2.2.2.2.2.2] from rfl]
 have bsz := B.size
 have szd := ch.size
 have CH : Chg (fun j => S j ∨ j = g) w wd := (zII B).trans ch
 have HZ : Hid _ := And.intro co (And.intro mo (And.intro gr CH))
 clear co mo gr CH ch B G N Zo
 go_upto_region 8 with fail
 generalize hwk : wd.alloc _ = wk
 have K := boxH hwk
 have bk := boxB hwk
 have zk := boxL hwk
 clear hwk
 have zka := Nat.le_of_eq zk
 have zkb := Nat.le_of_eq zk.symm
 clear zk
 obtain ⟨kc0, kc1, kc2, kc3, kc4, kc5, kc6⟩ := zAe K
 obtain ⟨kf0, kf1, kf2, kf3, kf4, kf5, kf6⟩ := zB8 K
 have klt := (Array.getElem?_eq_some_iff.1 K).1
 have HW : Hid _ := And.intro K bk
 clear K bk
 go_wp2
 clear kc0 kc1 kc2 kc3 kc4 kc5 kc6 kf0 kf1 kf2 kf3 kf4 kf5 kf6
 obtain ⟨K, bk⟩ := HW.out
 obtain ⟨co, mo, gr, CH⟩ := HZ.out
 obtain ⟨hS, hg⟩ := HSS.out
 have FS : (zAo wk wd.heap.size 1 [.int .i64 id]).heap.size = wk.heap.size := zAj _ _ _
 have bb := zAf (zAo wk wd.heap.size 1 [.int .i64 id]) (.cells #[.int .i64 am.1, .int .i64 id, .int .i64 am.2.2.1, .int .i64 am.2.2.2.1, .int .i64 am.2.2.2.2.1, .slice na am.2.2.2.2.2.1.length nc, .int .i64 am.2.2.2.2.2.2] 46)
 have al := zAp (zAo wk wd.heap.size 1 [.int .i64 id]) (.cells #[.int .i64 am.1, .int .i64 id, .int .i64 am.2.2.1, .int .i64 am.2.2.2.1, .int .i64 am.2.2.2.2.1, .slice na am.2.2.2.2.2.1.length nc, .int .i64 am.2.2.2.2.2.2] 46)
 have CO := zAn.own_keep (zAs (g := wd.heap.size) (o := 1) (vs := [.int .i64 id]) (zAn.own_keep co (zAh bk)) (fun q => by rcases q with q | q; (have := hS _ q; omega); omega)) (zAh bb)
 have OM := zFJ (e := 46) (R := zBy) (by decide) (zAs (g := wd.heap.size) (o := 1) (vs := [.int .i64 id]) (zBy.own_keep (zLv mo hid) (zAh bk)) (fun q => by have := q.2; omega)) (fun j q => by rw [FS]; have := q.2; omega)
 rw [FS] at OM
 have GR := zAa bb (zAk (g := wd.heap.size) (o := 1) (vs := [.int .i64 id]) (zAa bk gr) (by omega))
 have CC : Chg (fun j => S j ∨ j = g) w ((zAo wk wd.heap.size 1 [.int .i64 id]).alloc (.cells #[.int .i64 am.1, .int .i64 id, .int .i64 am.2.2.1, .int .i64 am.2.2.2.1, .int .i64 am.2.2.2.2.1, .slice na am.2.2.2.2.2.1.length nc, .int .i64 am.2.2.2.2.2.2] 46)) := (zBg (CH.trans (zA9 bk)) (by omega)).trans (zA9 bb)
 have FQ : GtP S g w y9 [(am.1, id, am.2.2)] 1 (.returned (.tuple #[.slice (some ⟨wk.heap.size, 0, none⟩) 1 1, .int .i64 1])) ((zAo wk wd.heap.size 1 [.int .i64 id]).alloc (.cells #[.int .i64 am.1, .int .i64 id, .int .i64 am.2.2.1, .int .i64 am.2.2.2.1, .int .i64 am.2.2.2.2.1, .slice na am.2.2.2.2.2.1.length nc, .int .i64 am.2.2.2.2.2.2] 46)) := ⟨ds, _, rfl, zAn.own_mono CO (fun j q => by rw [al, FS]; rcases q with q | q; exact .inl q; exact .inr ⟨by omega, by omega⟩), zBp.own_mono OM (fun j q => by refine ⟨?_, ?_⟩; (rcases q with q | q; (have := q.1; omega); omega); (rw [al, FS]; rcases q with q | q; (have := q.2; omega); omega)), GR, CC⟩
 simp only [zA0, zA3] at FQ
 clear CO OM GR CC bb al FS K bk co mo gr CH
 refine bodyPost_ret (v := .tuple #[.slice (some ⟨wk.heap.size, 0, none⟩) 1 1, .int .i64 1]) (by simp [results, Tryz.results25, go_sem]) rfl ?_
 exact FQ
theorem zKH (S : zAX) (g : Nat) (cs ns : List Value) (x : zAE) (id : Int) (m : zB5) (w : World) (ho : zAn.own w S cs x) (hS : ∀ k, S k → k < w.heap.size) (hg : ¬ S g) (hbox : w.heap[g]? = some (.cells cs.toArray 41 (0, 0))) (hm : zBy.rd w ns m) (hk : zAZ x = true) (hid : zBk id) (hkd : m.2.2.2.1 = 7) (hb : zAQ m.2.2.2.2.1 0 15 = true) :
    Calls Tryz.prog 25 #[.pointer (some ⟨g, 0, none⟩), .int .i64 id, zAM ns] w fun e w' => GtP S g w (ofS (zAI (toS x) 0 m).1) [((zAI (toS x) 0 m).2.1, id, (zAI (toS x) 0 m).2.2.2)] 1 e w' := by
 have HAK : Hid (∀ W, Below w.heap.size w W → Calls Tryz.prog 58 #[.pointer (some ⟨g, 0, none⟩), zAM ns] W fun e w' => zHy S g W (ofS (zAI (toS x) 0 m).1) (zAI (toS x) 0 m).2 e w') := fun W hb => zHM S g cs ns x m W (zAn.own_keep ho (zAh hb)) (fun j z => Nat.lt_of_lt_of_le (hS j z) hb.size) hg (zAa hb hbox) (zAN hm hb) hk (.inr hkd)
 obtain ⟨y9, hy9⟩ : ∃ y9, y9 = ofS (zAI (toS x) 0 m).1 := ⟨_, rfl⟩
 obtain ⟨am, ham⟩ : ∃ am, am = (zAI (toS x) 0 m).2 := ⟨_, rfl⟩
 rw [← hy9, ← ham] at HAK
 rw [← hy9, ← ham]
 clear hy9 ham
 obtain ⟨ma, mc, rfl, im0, im1, im2, im3, im4, im6, -, -, -⟩ := zBB hm
 obtain ⟨v0, v1, v2, v5, v6, v7, v8, S0, S1, S4, S5, rfl, i2, i3, o0, o1, o4, o5, sb0, sb1, sb4, sb5, d01, d04, d05, d14, d15, d45⟩ := zBd ho
 have r0 := zAB.own_rd o0
 obtain ⟨a0, c0, b0, d0, e0, -⟩ := zAH r0
 simp only [List.cons.injEq, and_true] at e0
 obtain ⟨rfl, rfl⟩ := e0
 obtain ⟨a1, c1, e1, -⟩ := zBX.own_rd o1
 simp only [List.cons.injEq, and_true] at e1
 obtain rfl := e1
 have r4 := zAS.own_rd o4
 obtain ⟨a4, c4, e4, ih1, ih2, -, -, q4⟩ := zAL r4
 simp only [List.cons.injEq, and_true] at e4
 obtain ⟨rfl, rfl, rfl⟩ := e4
 obtain ⟨a5, c5, e5, -⟩ := zA5.own_rd o5
 simp only [List.cons.injEq, and_true] at e5
 obtain rfl := e5
 have HO : Hid (∀ W, Below w.heap.size w W → zAn.own W S [.slice a0 x.1.1.length c0, .slice b0 x.1.2.length d0, .slice a1 x.2.1.length c1, .int .i64 x.2.2.1, .int .i64 x.2.2.2.1, .int .i64 x.2.2.2.2.1.1, .int .i64 x.2.2.2.2.1.2.1, .slice a4 x.2.2.2.2.1.2.2.length c4, .slice a5 x.2.2.2.2.2.length c5] x) := fun W hb => zAn.own_keep ho (zAh hb)
 have HSS : Hid _ := And.intro hS hg
 have G : w.heap[g]? = some (.cells #[.slice a0 x.1.1.length c0, .slice b0 x.1.2.length d0, .slice a1 x.2.1.length c1, .int .i64 x.2.2.1, .int .i64 x.2.2.2.1, .int .i64 x.2.2.2.2.1.1, .int .i64 x.2.2.2.2.1.2.1, .slice a4 x.2.2.2.2.1.2.2.length c4, .slice a5 x.2.2.2.2.2.length c5] 41 (0, 0)) := hbox
 have gl := (Array.getElem?_eq_some_iff.1 G).1
 rw [show zAM [.int .i64 m.1, .int .i64 m.2.1, .int .i64 m.2.2.1, .int .i64 m.2.2.2.1, .int .i64 m.2.2.2.2.1, .slice ma m.2.2.2.2.2.1.length mc, .int .i64 m.2.2.2.2.2.2] = .agg #[.int .i64 m.1, .int .i64 m.2.1, .int .i64 m.2.2.1, .int .i64 m.2.2.2.1, .int .i64 m.2.2.2.2.1, .slice ma m.2.2.2.2.2.1.length mc, .int .i64 m.2.2.2.2.2.2] from rfl] at HAK
 have HIN : Hid (∀ W, Calls Tryz.prog 23 #[.int .i64 m.2.2.2.2.1, .int .i64 0, .int .i64 15] W fun e w' => e = .returned (.bool true) ∧ Below W.heap.size W w') := fun W => (zBa m.2.2.2.2.1 0 15 W).mono fun e w' ⟨q, r⟩ => ⟨by rw [q, hb], zFj r⟩
 obtain ⟨c, p, at_, ph, h, t⟩ := x
 simp only at *
 clear ho hS hg r0 r4 q4 o0 o1 o4 o5 sb0 sb1 sb4 sb5 d01 d04 d05 d14 d15 d45 i2 i3 ih1 ih2 hm hbox im0 im1 im2 im3 im4 im6 hb hk HO
 have z6 : (m.2.2.2.1 == 6) = false := by simp [hkd]
 have z7 : (m.2.2.2.1 == 7) = true := by simp [hkd]
 clear hkd
 rw [show zAM [.int .i64 m.1, .int .i64 m.2.1, .int .i64 m.2.2.1, .int .i64 m.2.2.2.1, .int .i64 m.2.2.2.2.1, .slice ma m.2.2.2.2.2.1.length mc, .int .i64 m.2.2.2.2.2.2] = .agg #[.int .i64 m.1, .int .i64 m.2.1, .int .i64 m.2.2.1, .int .i64 m.2.2.2.1, .int .i64 m.2.2.2.2.1, .slice ma m.2.2.2.2.2.1.length mc, .int .i64 m.2.2.2.2.2.2] from rfl]
 have B := Below.refl w.heap.size w
 go_enter Tryz.func25, Tryz.ntmps25
 go_upto_region 1 with fail
 generalize hu1w : w.alloc _ = u1w
 have N := boxH hu1w
 have bz := boxB hu1w
 have zN := boxL hu1w
 clear hu1w
 replace B := zAb B bz
 replace G := zAa bz G
 clear bz
 have zNa := Nat.le_of_eq zN
 have zNb := Nat.le_of_eq zN.symm
 clear zN
 obtain ⟨Gc0, Gc1, Gc2, Gc3, Gc4, Gc5, Gc6, Gc7, Gc8⟩ := zAc G
 have Glt := (Array.getElem?_eq_some_iff.1 G).1
 obtain ⟨Nc0, Nc1, Nc2, Nc3, Nc4, Nc5, Nc6⟩ := zAe N
 have Nlt := (Array.getElem?_eq_some_iff.1 N).1
 go_upto_region 2 with fail
 clear Gc0 Gc1 Gc2 Gc3 Gc4 Gc5 Gc6 Gc7 Gc8 Glt Nc0 Nc1 Nc2 Nc3 Nc4 Nc5 Nc6 Nlt
 have Zo : zCp zBp (w.heap.size + 1) (w.heap.size + 1 + 1) (u1w.alloc (.cells #[] 46)) [.slice (some ⟨w.heap.size + 1, 0, none⟩) 0 0] [] := by
  have q := zC3 (e := 46) (R := zBy) u1w
  rw [show u1w.heap.size = w.heap.size + 1 from by omega] at q
  exact And.intro (zBp.own_mono q (fun k z => by have z2 : k = w.heap.size + 1 := z; exact ⟨by omega, by omega⟩)) (by rw [zAp]; omega)
 have bz := zAf u1w (.cells #[] 46)
 have zz := zAp u1w (.cells #[] 46)
 replace B := zAb B bz
 replace G := zAa bz G
 replace N := zAa bz N
 clear bz
 generalize u1w.alloc (.cells #[] 46) = u2w at B G N Zo zz ⊢
 have zza := Nat.le_of_eq zz
 have zzb := Nat.le_of_eq zz.symm
 clear zz
 obtain ⟨Gc0, Gc1, Gc2, Gc3, Gc4, Gc5, Gc6, Gc7, Gc8⟩ := zAc G
 have Glt := (Array.getElem?_eq_some_iff.1 G).1
 obtain ⟨Nc0, Nc1, Nc2, Nc3, Nc4, Nc5, Nc6⟩ := zAe N
 have Nlt := (Array.getElem?_eq_some_iff.1 N).1
 go_wp2_with fail
 clear Gc0 Gc1 Gc2 Gc3 Gc4 Gc5 Gc6 Gc7 Gc8 Glt Nc0 Nc1 Nc2 Nc3 Nc4 Nc5 Nc6 Nlt
 refine (HIN.out _).mono ?_
 rintro e u3w ⟨rfl, bq⟩
 have tu3w : u2w.heap.size ≤ u3w.heap.size := bq.size
 replace B := zAb B bq
 replace G := zAa bq G
 replace N := zAa bq N
 replace Zo := zA6 Zo bq
 clear bq
 obtain ⟨Gc0, Gc1, Gc2, Gc3, Gc4, Gc5, Gc6, Gc7, Gc8⟩ := zAc G
 have Glt := (Array.getElem?_eq_some_iff.1 G).1
 obtain ⟨Nc0, Nc1, Nc2, Nc3, Nc4, Nc5, Nc6⟩ := zAe N
 have Nlt := (Array.getElem?_eq_some_iff.1 N).1
 go_wp2_with fail
 clear Gc0 Gc1 Gc2 Gc3 Gc4 Gc5 Gc6 Gc7 Gc8 Glt Nc0 Nc1 Nc2 Nc3 Nc4 Nc5 Nc6 Nlt
 refine (HAK.out _ B).mono ?_
 rintro e wd ⟨ds, ms, rfl, co, mo, gr, ch⟩
 obtain ⟨na, nc, rfl, in0, in1, in2, in3, in4, in6, -, -, -⟩ := zBB (zBy.own_rd mo)
 rw [show zAM [.int .i64 am.1, .int .i64 am.2.1, .int .i64 am.2.2.1, .int .i64 am.2.2.2.1, .int .i64 am.2.2.2.2.1, .slice na am.2.2.2.2.2.1.length nc, .int .i64 am.2.2.2.2.2.2] = .agg #[.int .i64 am.1, .int .i64 am.2.1, .int .i64 am.2.2.1, .int .i64 am.2.2.2.1, .int .i64 am.2.2.2.2.1, .slice na am.2.2.2.2.2.1.length nc, .int .i64 am.2.2.2.2.2.2] from rfl]
 have bsz := B.size
 have szd := ch.size
 have CH : Chg (fun j => S j ∨ j = g) w wd := (zII B).trans ch
 have HZ : Hid _ := And.intro co (And.intro mo (And.intro gr CH))
 clear co mo gr CH ch B G N Zo
 go_upto_region 8 with fail
 generalize hwk : wd.alloc _ = wk
 have K := boxH hwk
 have bk := boxB hwk
 have zk := boxL hwk
 clear hwk
 have zka := Nat.le_of_eq zk
 have zkb := Nat.le_of_eq zk.symm
 clear zk
 obtain ⟨kc0, kc1, kc2, kc3, kc4, kc5, kc6⟩ := zAe K
 obtain ⟨kf0, kf1, kf2, kf3, kf4, kf5, kf6⟩ := zB8 K
 have klt := (Array.getElem?_eq_some_iff.1 K).1
 have HW : Hid _ := And.intro K bk
 clear K bk
 go_wp2
 clear kc0 kc1 kc2 kc3 kc4 kc5 kc6 kf0 kf1 kf2 kf3 kf4 kf5 kf6
 obtain ⟨K, bk⟩ := HW.out
 obtain ⟨co, mo, gr, CH⟩ := HZ.out
 obtain ⟨hS, hg⟩ := HSS.out
 have FS : (zAo wk wd.heap.size 1 [.int .i64 id]).heap.size = wk.heap.size := zAj _ _ _
 have bb := zAf (zAo wk wd.heap.size 1 [.int .i64 id]) (.cells #[.int .i64 am.1, .int .i64 id, .int .i64 am.2.2.1, .int .i64 am.2.2.2.1, .int .i64 am.2.2.2.2.1, .slice na am.2.2.2.2.2.1.length nc, .int .i64 am.2.2.2.2.2.2] 46)
 have al := zAp (zAo wk wd.heap.size 1 [.int .i64 id]) (.cells #[.int .i64 am.1, .int .i64 id, .int .i64 am.2.2.1, .int .i64 am.2.2.2.1, .int .i64 am.2.2.2.2.1, .slice na am.2.2.2.2.2.1.length nc, .int .i64 am.2.2.2.2.2.2] 46)
 have CO := zAn.own_keep (zAs (g := wd.heap.size) (o := 1) (vs := [.int .i64 id]) (zAn.own_keep co (zAh bk)) (fun q => by rcases q with q | q; (have := hS _ q; omega); omega)) (zAh bb)
 have OM := zFJ (e := 46) (R := zBy) (by decide) (zAs (g := wd.heap.size) (o := 1) (vs := [.int .i64 id]) (zBy.own_keep (zLv mo hid) (zAh bk)) (fun q => by have := q.2; omega)) (fun j q => by rw [FS]; have := q.2; omega)
 rw [FS] at OM
 have GR := zAa bb (zAk (g := wd.heap.size) (o := 1) (vs := [.int .i64 id]) (zAa bk gr) (by omega))
 have CC : Chg (fun j => S j ∨ j = g) w ((zAo wk wd.heap.size 1 [.int .i64 id]).alloc (.cells #[.int .i64 am.1, .int .i64 id, .int .i64 am.2.2.1, .int .i64 am.2.2.2.1, .int .i64 am.2.2.2.2.1, .slice na am.2.2.2.2.2.1.length nc, .int .i64 am.2.2.2.2.2.2] 46)) := (zBg (CH.trans (zA9 bk)) (by omega)).trans (zA9 bb)
 have FQ : GtP S g w y9 [(am.1, id, am.2.2)] 1 (.returned (.tuple #[.slice (some ⟨wk.heap.size, 0, none⟩) 1 1, .int .i64 1])) ((zAo wk wd.heap.size 1 [.int .i64 id]).alloc (.cells #[.int .i64 am.1, .int .i64 id, .int .i64 am.2.2.1, .int .i64 am.2.2.2.1, .int .i64 am.2.2.2.2.1, .slice na am.2.2.2.2.2.1.length nc, .int .i64 am.2.2.2.2.2.2] 46)) := ⟨ds, _, rfl, zAn.own_mono CO (fun j q => by rw [al, FS]; rcases q with q | q; exact .inl q; exact .inr ⟨by omega, by omega⟩), zBp.own_mono OM (fun j q => by refine ⟨?_, ?_⟩; (rcases q with q | q; (have := q.1; omega); omega); (rw [al, FS]; rcases q with q | q; (have := q.2; omega); omega)), GR, CC⟩
 simp only [zA0, zA3] at FQ
 clear CO OM GR CC bb al FS K bk co mo gr CH
 refine bodyPost_ret (v := .tuple #[.slice (some ⟨wk.heap.size, 0, none⟩) 1 1, .int .i64 1]) (by simp [results, Tryz.results25, go_sem]) rfl ?_
 exact FQ
end Go.Proofs.YtoihjejenjcokaaGreatDoor
